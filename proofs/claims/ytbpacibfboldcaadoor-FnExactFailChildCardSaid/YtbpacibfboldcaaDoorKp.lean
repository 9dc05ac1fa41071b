
/- Keepers: sizes, copies, comparisons. No conditions but those written. -/
import Derived.Test.YtbpacibfboldcaaDoorBl
import Derived.Test.YtbpacibfboldcaaDoorBx
import Derived.Test.YtbpacibfboldcaaDoorDp
namespace Go.Proofs.YtbpacibfboldcaaDoor
open Go.RowKit

theorem set_far {xs : List Value} {p q : Nat} {u : Value} (h : p ≠ q) : (xs.set p u)[q]? = xs[q]? := by rw [List.getElem?_set, if_neg h]
theorem set_at {xs : List Value} {p : Nat} {u : Value} (h : p < xs.length) : (xs.set p u)[p]? = some u := by rw [List.getElem?_set, if_pos rfl, if_pos h]
theorem Kind.Fresh.setOff {α : Type} {K : Kind α} {lo hi : Nat} {W : World} {qo : Option Addr} {qc : Nat} {q : List α} (h : K.Fresh lo hi W qo qc q) {a : Addr} (ha : a.block < lo ∨ hi ≤ a.block) (u : Value) : K.Fresh lo hi (W.setCell a u) qo qc q := h.keep fun k h1 h2 _ => Below.heap_setCell W a u k (by omega)
theorem Kind.Fresh.notNew {α : Type} {K : Kind α} {lo hi : Nat} {W : World} {qo : Option Addr} {qc : Nat} {q : List α} (h : K.Fresh lo hi W qo qc q) {g : Nat} (e : eff qo q.length = some ⟨g, 0, none⟩) : W.heap.size ≠ g := by
  rcases h with rfl | ⟨g2, e2, hg, ho⟩
  · simp [eff] at e
  · unfold eff at e
    split at e
    · cases e
    · rw [e2] at e; simp at e; subst e
      have := (owns_lt ho).2; omega
/-- What lies behind a Keeper. -/
def InKeeper (n : Nat) (W : World) (ro : Option Addr) (r : List (Bool)) (fo : Option Addr) (f : List (Int)) : Prop := kB.In n W ro r ∧ kI.In n W fo f
/-- What lies behind a Keeper, in memory of its own. -/
def FrKeeper (lo hi : Nat) (W : World) (ro : Option Addr) (rc : Nat) (r : List (Bool)) (fo : Option Addr) (fc : Nat) (f : List (Int)) : Prop := kB.Fresh lo hi W ro rc r ∧ kI.Fresh lo hi W fo fc f
theorem InKeeper.later {W W' : World} {ro : Option Addr} {r : List (Bool)} {fo : Option Addr} {f : List (Int)} (h : InKeeper W.heap.size W ro r fo f) (hb : Below W.heap.size W W') : InKeeper W'.heap.size W' ro r fo f := ⟨h.1.later hb, h.2.later hb⟩
theorem InKeeper.below {n : Nat} {W W' : World} {ro : Option Addr} {r : List (Bool)} {fo : Option Addr} {f : List (Int)} (h : InKeeper n W ro r fo f) (hb : Below n W W') : InKeeper n W' ro r fo f := ⟨h.1.below hb, h.2.below hb⟩
theorem FrKeeper.in {lo hi : Nat} {W : World} {ro : Option Addr} {rc : Nat} {r : List (Bool)} {fo : Option Addr} {fc : Nat} {f : List (Int)} (h : FrKeeper lo hi W ro rc r fo fc f) : InKeeper W.heap.size W ro r fo f := ⟨h.1.in, h.2.in⟩
theorem FrKeeper.later {lo hi : Nat} {W W' : World} {ro : Option Addr} {rc : Nat} {r : List (Bool)} {fo : Option Addr} {fc : Nat} {f : List (Int)} (h : FrKeeper lo hi W ro rc r fo fc f) (hb : Below W.heap.size W W') : FrKeeper lo hi W' ro rc r fo fc f := ⟨h.1.later hb, h.2.later hb⟩
theorem FrKeeper.keep {lo hi : Nat} {W W' : World} {ro : Option Addr} {rc : Nat} {r : List (Bool)} {fo : Option Addr} {fc : Nat} {f : List (Int)} (h : FrKeeper lo hi W ro rc r fo fc f) (hk : ∀ k, lo ≤ k → k < hi → k < W.heap.size → W'.heap[k]? = W.heap[k]?) : FrKeeper lo hi W' ro rc r fo fc f := ⟨h.1.keep hk, h.2.keep hk⟩
theorem FrKeeper.wide {lo hi lo' hi' : Nat} {W : World} {ro : Option Addr} {rc : Nat} {r : List (Bool)} {fo : Option Addr} {fc : Nat} {f : List (Int)} (h : FrKeeper lo hi W ro rc r fo fc f) (h1 : lo' ≤ lo) (h2 : hi ≤ hi') : FrKeeper lo' hi' W ro rc r fo fc f := ⟨h.1.wide h1 h2, h.2.wide h1 h2⟩
theorem FrKeeper.low {lo hi : Nat} {W : World} {ro : Option Addr} {rc : Nat} {r : List (Bool)} {fo : Option Addr} {fc : Nat} {f : List (Int)} (h : FrKeeper lo hi W ro rc r fo fc f) {hi' : Nat} (h2 : W.heap.size ≤ hi') : FrKeeper lo hi' W ro rc r fo fc f := ⟨h.1.low h2, h.2.low h2⟩
theorem FrKeeper.setBelow {lo hi : Nat} {W : World} {ro : Option Addr} {rc : Nat} {r : List (Bool)} {fo : Option Addr} {fc : Nat} {f : List (Int)} (h : FrKeeper lo hi W ro rc r fo fc f) {a : Addr} (ha : a.block < lo) (u : Value) : FrKeeper lo hi (W.setCell a u) ro rc r fo fc f := ⟨h.1.setBelow ha u, h.2.setBelow ha u⟩
theorem FrKeeper.setAbove {lo hi : Nat} {W : World} {ro : Option Addr} {rc : Nat} {r : List (Bool)} {fo : Option Addr} {fc : Nat} {f : List (Int)} (h : FrKeeper lo hi W ro rc r fo fc f) {a : Addr} (ha : hi ≤ a.block) (u : Value) : FrKeeper lo hi (W.setCell a u) ro rc r fo fc f := ⟨h.1.setAbove ha u, h.2.setAbove ha u⟩
theorem FrKeeper.setOff {lo hi : Nat} {W : World} {ro : Option Addr} {rc : Nat} {r : List (Bool)} {fo : Option Addr} {fc : Nat} {f : List (Int)} (h : FrKeeper lo hi W ro rc r fo fc f) {a : Addr} (ha : a.block < lo ∨ hi ≤ a.block) (u : Value) : FrKeeper lo hi (W.setCell a u) ro rc r fo fc f := ⟨h.1.setOff ha u, h.2.setOff ha u⟩
theorem FrKeeper.between' {lo hi lo' hi' : Nat} {W W' : World} {ro : Option Addr} {rc : Nat} {r : List (Bool)} {fo : Option Addr} {fc : Nat} {f : List (Int)} (h : FrKeeper lo hi W ro rc r fo fc f) (hb : Between lo' hi' W W') (hd : hi ≤ lo' ∨ hi' ≤ lo) : FrKeeper lo hi W' ro rc r fo fc f := ⟨h.1.between' hb hd, h.2.between' hb hd⟩
set_option maxHeartbeats 2000000 in
theorem szKeeper_any (kd : Int) (mr : Int) (wi : Int) (up : Int) (ch : Int) (ov : Bool) (ro : Option Addr) (nr rc : Nat) (fo : Option Addr) (nf fc : Nat) (w : World) (hlr : nr ≤ 9223372036854775807) (hlf : nf ≤ 9223372036854775807) :
    Calls Tryd.prog 5 #[.agg #[.int .i64 kd, .int .i64 mr, .int .i64 wi, .int .i64 up, .int .i64 ch, .slice ro nr rc, .slice fo nf fc, .bool ov], .int .i64 1048576] w fun e w' => (∃ z : Int, e = .returned (.int .i64 z) ∧ ((z < 0) ∨ (0 ≤ z ∧ nr ≤ 1048576 ∧ nf ≤ 1048576))) ∧ Below w.heap.size w w' := by
  have hB0 := below1 w (.cells #[.int .i64 kd, .int .i64 mr, .int .i64 wi, .int .i64 up, .int .i64 ch, .slice ro nr rc, .slice fo nf fc, .bool ov] 25)
  go_enter Tryd.func5, Tryd.ntmps5
  go_wp2_with fail
  refine (szBoolS_any _ _ _ _ _ (by omega) (by omega) hlr).mono ?_
  rintro e w1 ⟨⟨z0, rfl, hr0, hs0⟩, rfl⟩
  by_cases h0 : z0 < 0
  · go_wp2
    go_ret
    exact ⟨⟨_, rfl, by omega⟩, hB0⟩
  go_wp2_with fail
  refine (szIntS_any _ _ _ _ _ (by omega) (by omega) hlf).mono ?_
  rintro e w1 ⟨⟨z1, rfl, hr1, hs1⟩, rfl⟩
  by_cases h1 : z1 < 0
  · go_wp2
    go_ret
    exact ⟨⟨_, rfl, by omega⟩, hB0⟩
  go_wp2
  go_ret
  exact ⟨⟨_, rfl, by omega⟩, hB0⟩
set_option maxRecDepth 10000 in
set_option maxHeartbeats 4000000 in
theorem toKeeper_any (kd : Int) (mr : Int) (wi : Int) (up : Int) (ch : Int) (ov : Bool) (ro : Option Addr) (rc : Nat) (r : List (Bool)) (fo : Option Addr) (fc : Nat) (f : List (Int)) (w : World) (hlr : r.length ≤ 1048576) (hlf : f.length ≤ 1048576) (hz : InKeeper w.heap.size w ro r fo f) :
    Calls Tryd.prog 7 #[.agg #[.int .i64 kd, .int .i64 mr, .int .i64 wi, .int .i64 up, .int .i64 ch, .slice ro r.length rc, .slice fo f.length fc, .bool ov]] w fun e w' => ∃ gr gf, e = .returned (.agg #[.int .i64 kd, .int .i64 mr, .int .i64 wi, .int .i64 up, .int .i64 ch, .slice (some ⟨gr, 0, none⟩) r.length r.length, .slice (some ⟨gf, 0, none⟩) f.length f.length, .bool ov]) ∧ FrKeeper w.heap.size w'.heap.size w' (some ⟨gr, 0, none⟩) r.length r (some ⟨gf, 0, none⟩) f.length f ∧ Below w.heap.size w w' := by
  go_enter Tryd.func7, Tryd.ntmps7
  go_wp2_with fail
  obtain ⟨V0, hV0⟩ : ∃ V0, V0 = (((w.alloc (.cells #[.int .i64 kd, .int .i64 mr, .int .i64 wi, .int .i64 up, .int .i64 ch, .slice ro r.length rc, .slice fo f.length fc, .bool ov] 25)).alloc (.cells #[.int .i64 0, .int .i64 0, .int .i64 0, .int .i64 0, .int .i64 0, .slice none 0 0, .slice none 0 0, .bool false] 27)).alloc (.cells #[.int .i64 kd, .int .i64 mr, .int .i64 wi, .int .i64 up, .int .i64 ch, .slice none 0 0, .slice none 0 0, .bool false] 27)) := ⟨_, rfl⟩
  rw [← hV0]
  have hs0 : V0.heap.size = w.heap.size + 1 + 1 + 1 := by rw [hV0]; simp
  have hB0 : Below w.heap.size w V0 := by rw [hV0]; exact below3 _ _ _ _
  have A0 : Hid (Bx V0 (w.heap.size) [.int .i64 kd, .int .i64 mr, .int .i64 wi, .int .i64 up, .int .i64 ch, .slice ro r.length rc, .slice fo f.length fc, .bool ov]) := by rw [hV0]; exact ((Bx.new [.int .i64 kd, .int .i64 mr, .int .i64 wi, .int .i64 up, .int .i64 ch, .slice ro r.length rc, .slice fo f.length fc, .bool ov] _ rfl).alloc _).alloc _
  have R0 : Hid (Bx V0 (w.heap.size + 1) [.int .i64 0, .int .i64 0, .int .i64 0, .int .i64 0, .int .i64 0, .slice none 0 0, .slice none 0 0, .bool false]) := by rw [hV0]; exact (Bx.new [.int .i64 0, .int .i64 0, .int .i64 0, .int .i64 0, .int .i64 0, .slice none 0 0, .slice none 0 0, .bool false] _ (by simp)).alloc _
  have O0 : Hid (Bx V0 (w.heap.size + 1 + 1) [.int .i64 kd, .int .i64 mr, .int .i64 wi, .int .i64 up, .int .i64 ch, .slice none 0 0, .slice none 0 0, .bool false]) := by rw [hV0]; exact Bx.new [.int .i64 kd, .int .i64 mr, .int .i64 wi, .int .i64 up, .int .i64 ch, .slice none 0 0, .slice none 0 0, .bool false] _ (by simp)
  clear hV0
  have HS0 : Hid (V0.heap.size = w.heap.size + 1 + 1 + 1) := hs0
  clear hs0
  refine (toBoolS_any ro rc r _ hlr (hz.1.later hB0)).mono ?_
  rintro e w1 ⟨rfl, hT0, hb0⟩
  obtain ⟨gr, hgr⟩ : ∃ g, g = V0.heap.size := ⟨_, rfl⟩
  rw [← hgr] at hT0 ⊢
  have HG0 : Hid (gr = V0.heap.size) := hgr
  clear hgr
  have hBw0 := hB0.trans (hb0.mono hB0.size)
  have Aw0 := hid (A0.out.later hb0)
  have Rw0 := hid (R0.out.later hb0)
  have Ow0 := hid (O0.out.later hb0)
  have Fy0 : Hid (kB.Fresh gr w1.heap.size w1 (some ⟨gr, 0, none⟩) r.length r) := hT0
  have HZ0 : Hid (V0.heap.size ≤ w1.heap.size) := hb0.size
  clear hT0 hb0 A0 R0 O0 hB0
  have a0 := Aw0.out.c 0 rfl
  have o0 := Ow0.out.c 0 rfl
  have of0 := Ow0.out.f 0 rfl
  have a1 := Aw0.out.c 1 rfl
  have o1 := Ow0.out.c 1 rfl
  have of1 := Ow0.out.f 1 rfl
  have a2 := Aw0.out.c 2 rfl
  have o2 := Ow0.out.c 2 rfl
  have of2 := Ow0.out.f 2 rfl
  have a3 := Aw0.out.c 3 rfl
  have o3 := Ow0.out.c 3 rfl
  have of3 := Ow0.out.f 3 rfl
  have a4 := Aw0.out.c 4 rfl
  have o4 := Ow0.out.c 4 rfl
  have of4 := Ow0.out.f 4 rfl
  have a5 := Aw0.out.c 5 rfl
  have o5 := Ow0.out.c 5 rfl
  have of5 := Ow0.out.f 5 rfl
  have a6 := Aw0.out.c 6 rfl
  have o6 := Ow0.out.c 6 rfl
  have of6 := Ow0.out.f 6 rfl
  have a7 := Aw0.out.c 7 rfl
  have o7 := Ow0.out.c 7 rfl
  have of7 := Ow0.out.f 7 rfl
  obtain ⟨V1, hV1⟩ : ∃ V, V = (w1.setCell ⟨w.heap.size + 1 + 1, 5, none⟩ (.slice (some ⟨gr, 0, none⟩) r.length r.length)) := ⟨_, rfl⟩
  have HV1 : Hid (V1 = (w1.setCell ⟨w.heap.size + 1 + 1, 5, none⟩ (.slice (some ⟨gr, 0, none⟩) r.length r.length))) := hV1
  have hB1 : Below w.heap.size w V1 := by rw [hV1]; exact (hBw0.setCell (p := ⟨w.heap.size + 1 + 1, 5, none⟩) (by simp; omega) _)
  have A1 : Hid (Bx V1 (w.heap.size) [.int .i64 kd, .int .i64 mr, .int .i64 wi, .int .i64 up, .int .i64 ch, .slice ro r.length rc, .slice fo f.length fc, .bool ov]) := by rw [hV1]; exact (Aw0.out.other (a := ⟨w.heap.size + 1 + 1, 5, none⟩) (by simp; omega) (.slice (some ⟨gr, 0, none⟩) r.length r.length))
  have R1 : Hid (Bx V1 (w.heap.size + 1) [.int .i64 0, .int .i64 0, .int .i64 0, .int .i64 0, .int .i64 0, .slice none 0 0, .slice none 0 0, .bool false]) := by rw [hV1]; exact (Rw0.out.other (a := ⟨w.heap.size + 1 + 1, 5, none⟩) (by simp) (.slice (some ⟨gr, 0, none⟩) r.length r.length))
  have O1 : Hid (Bx V1 (w.heap.size + 1 + 1) [.int .i64 kd, .int .i64 mr, .int .i64 wi, .int .i64 up, .int .i64 ch, .slice (some ⟨gr, 0, none⟩) r.length r.length, .slice none 0 0, .bool false]) := by rw [hV1]; exact (Ow0.out.set 5 (.slice (some ⟨gr, 0, none⟩) r.length r.length))
  have HL0 : Hid (w.heap.size + 1 + 1 < gr) := by have := HS0.out; have := HG0.out; unfold Hid; omega
  have Fz1 : Hid (kB.Fresh gr w1.heap.size V1 (some ⟨gr, 0, none⟩) r.length r) := by rw [hV1]; exact (Fy0.out.setBelow (a := ⟨w.heap.size + 1 + 1, 5, none⟩) HL0.out (.slice (some ⟨gr, 0, none⟩) r.length r.length))
  have HSV1 : Hid (V1.heap.size = w1.heap.size) := by rw [hV1]; simp [World.setCell, Hid]
  clear hV1 Aw0 Rw0 Ow0 Fy0 hBw0 HL0
  go_wp2_with fail
  rw [← HV1.out]
  refine (toIntS_any fo fc f _ hlf (hz.2.later hB1)).mono ?_
  rintro e w2 ⟨rfl, hT1, hb1⟩
  obtain ⟨gf, hgf⟩ : ∃ g, g = V1.heap.size := ⟨_, rfl⟩
  rw [← hgf] at hT1 ⊢
  have HG1 : Hid (gf = V1.heap.size) := hgf
  clear hgf
  have hBw1 := hB1.trans (hb1.mono hB1.size)
  have Aw1 := hid (A1.out.later hb1)
  have Rw1 := hid (R1.out.later hb1)
  have Ow1 := hid (O1.out.later hb1)
  have Fy1 : Hid (kB.Fresh gr w1.heap.size w2 (some ⟨gr, 0, none⟩) r.length r ∧ kI.Fresh gf w2.heap.size w2 (some ⟨gf, 0, none⟩) f.length f) := ⟨Fz1.out.later hb1, hT1⟩
  have HZ1 : Hid (V1.heap.size ≤ w2.heap.size) := hb1.size
  clear hT1 hb1 A1 R1 O1 hB1 Fz1
  clear a0 o0 of0 a1 o1 of1 a2 o2 of2 a3 o3 of3 a4 o4 of4 a5 o5 of5 a6 o6 of6 a7 o7 of7
  have a0 := Aw1.out.c 0 rfl
  have o0 := Ow1.out.c 0 rfl
  have of0 := Ow1.out.f 0 rfl
  have a1 := Aw1.out.c 1 rfl
  have o1 := Ow1.out.c 1 rfl
  have of1 := Ow1.out.f 1 rfl
  have a2 := Aw1.out.c 2 rfl
  have o2 := Ow1.out.c 2 rfl
  have of2 := Ow1.out.f 2 rfl
  have a3 := Aw1.out.c 3 rfl
  have o3 := Ow1.out.c 3 rfl
  have of3 := Ow1.out.f 3 rfl
  have a4 := Aw1.out.c 4 rfl
  have o4 := Ow1.out.c 4 rfl
  have of4 := Ow1.out.f 4 rfl
  have a5 := Aw1.out.c 5 rfl
  have o5 := Ow1.out.c 5 rfl
  have of5 := Ow1.out.f 5 rfl
  have a6 := Aw1.out.c 6 rfl
  have o6 := Ow1.out.c 6 rfl
  have of6 := Ow1.out.f 6 rfl
  have a7 := Aw1.out.c 7 rfl
  have o7 := Ow1.out.c 7 rfl
  have of7 := Ow1.out.f 7 rfl
  have r0 := Rw1.out.c 0 rfl
  have rf0 := Rw1.out.f 0 rfl
  have r1 := Rw1.out.c 1 rfl
  have rf1 := Rw1.out.f 1 rfl
  have r2 := Rw1.out.c 2 rfl
  have rf2 := Rw1.out.f 2 rfl
  have r3 := Rw1.out.c 3 rfl
  have rf3 := Rw1.out.f 3 rfl
  have r4 := Rw1.out.c 4 rfl
  have rf4 := Rw1.out.f 4 rfl
  have r5 := Rw1.out.c 5 rfl
  have rf5 := Rw1.out.f 5 rfl
  have r6 := Rw1.out.c 6 rfl
  have rf6 := Rw1.out.f 6 rfl
  have r7 := Rw1.out.c 7 rfl
  have rf7 := Rw1.out.f 7 rfl
  go_wp2
  refine bodyPost_ret (v := .agg #[.int .i64 kd, .int .i64 mr, .int .i64 wi, .int .i64 up, .int .i64 ch, .slice (some ⟨gr, 0, none⟩) r.length r.length, .slice (some ⟨gf, 0, none⟩) f.length f.length, .bool ov]) (by simp [results, Tryd.results7, go_sem, r0, r1, r2, r3, r4, r5, r6, r7]) rfl ⟨_, _, rfl, ?_, ?_⟩
  · have := HS0.out
    have := HG0.out
    have := HG1.out
    have := HZ0.out
    have := HZ1.out
    have := HSV1.out
    have h0 : FrKeeper (w.heap.size + 1 + 1 + 1) w2.heap.size w2 (some ⟨gr, 0, none⟩) r.length r (some ⟨gf, 0, none⟩) f.length f := ⟨Fy1.out.1.wide (by omega) (by omega), Fy1.out.2.wide (by omega) (by omega)⟩
    exact ((((((((((h0.setBelow (a := ⟨w.heap.size + 1 + 1, 6, none⟩) (by simp) _).setBelow (a := ⟨w.heap.size + 1 + 1, 7, none⟩) (by simp) _).setBelow (a := ⟨w.heap.size + 1, 0, none⟩) (by simp) _).setBelow (a := ⟨w.heap.size + 1, 1, none⟩) (by simp) _).setBelow (a := ⟨w.heap.size + 1, 2, none⟩) (by simp) _).setBelow (a := ⟨w.heap.size + 1, 3, none⟩) (by simp) _).setBelow (a := ⟨w.heap.size + 1, 4, none⟩) (by simp) _).setBelow (a := ⟨w.heap.size + 1, 5, none⟩) (by simp) _).setBelow (a := ⟨w.heap.size + 1, 6, none⟩) (by simp) _).setBelow (a := ⟨w.heap.size + 1, 7, none⟩) (by simp) _).wide (by omega) (by simp)
  · exact ((((((((((hBw1.setCell (p := ⟨w.heap.size + 1 + 1, 6, none⟩) (by simp; omega) _).setCell (p := ⟨w.heap.size + 1 + 1, 7, none⟩) (by simp; omega) _).setCell (p := ⟨w.heap.size + 1, 0, none⟩) (by simp) _).setCell (p := ⟨w.heap.size + 1, 1, none⟩) (by simp) _).setCell (p := ⟨w.heap.size + 1, 2, none⟩) (by simp) _).setCell (p := ⟨w.heap.size + 1, 3, none⟩) (by simp) _).setCell (p := ⟨w.heap.size + 1, 4, none⟩) (by simp) _).setCell (p := ⟨w.heap.size + 1, 5, none⟩) (by simp) _).setCell (p := ⟨w.heap.size + 1, 6, none⟩) (by simp) _).setCell (p := ⟨w.heap.size + 1, 7, none⟩) (by simp) _)
set_option maxHeartbeats 2000000 in
theorem eqKeeper_same (kd : Int) (mr : Int) (wi : Int) (up : Int) (ch : Int) (ov : Bool) (ro : Option Addr) (rc : Nat) (r : List (Bool)) (fo : Option Addr) (fc : Nat) (f : List (Int)) (ro' : Option Addr) (rc' : Nat) (fo' : Option Addr) (fc' : Nat) (w : World) (hlr : r.length ≤ 1048576) (hlf : f.length ≤ 1048576) (hz : InKeeper w.heap.size w ro r fo f) (hz' : InKeeper w.heap.size w ro' r fo' f) :
    Calls Tryd.prog 9 #[.agg #[.int .i64 kd, .int .i64 mr, .int .i64 wi, .int .i64 up, .int .i64 ch, .slice ro r.length rc, .slice fo f.length fc, .bool ov], .agg #[.int .i64 kd, .int .i64 mr, .int .i64 wi, .int .i64 up, .int .i64 ch, .slice ro' r.length rc', .slice fo' f.length fc', .bool ov]] w fun e w' => e = .returned (.bool true) ∧ Below w.heap.size w w' := by
  have hkd : (kd != kd) = false := by simp
  have hmr : (mr != mr) = false := by simp
  have hwi : (wi != wi) = false := by simp
  have hup : (up != up) = false := by simp
  have hch : (ch != ch) = false := by simp
  have hov : (ov != ov) = false := by simp
  have hB0 := below2 w (.cells #[.int .i64 kd, .int .i64 mr, .int .i64 wi, .int .i64 up, .int .i64 ch, .slice ro r.length rc, .slice fo f.length fc, .bool ov] 27) (.cells #[.int .i64 kd, .int .i64 mr, .int .i64 wi, .int .i64 up, .int .i64 ch, .slice ro' r.length rc', .slice fo' f.length fc', .bool ov] 27)
  have X0 := hid ((Bx.new (w := w) [.int .i64 kd, .int .i64 mr, .int .i64 wi, .int .i64 up, .int .i64 ch, .slice ro r.length rc, .slice fo f.length fc, .bool ov] 27 rfl).alloc (.cells #[.int .i64 kd, .int .i64 mr, .int .i64 wi, .int .i64 up, .int .i64 ch, .slice ro' r.length rc', .slice fo' f.length fc', .bool ov] 27))
  have Y0 := hid (Bx.new (w := w.alloc (.cells #[.int .i64 kd, .int .i64 mr, .int .i64 wi, .int .i64 up, .int .i64 ch, .slice ro r.length rc, .slice fo f.length fc, .bool ov] 27)) (p := w.heap.size + 1) [.int .i64 kd, .int .i64 mr, .int .i64 wi, .int .i64 up, .int .i64 ch, .slice ro' r.length rc', .slice fo' f.length fc', .bool ov] 27 (by simp))
  go_enter Tryd.func9, Tryd.ntmps9
  go_wp2_with fail
  refine (eqBoolS_same ro ro' rc rc' r _ hlr (hz.1.later hB0) (hz'.1.later hB0)).mono ?_
  rintro e w1 ⟨rfl, hb1⟩
  have hB1 := hB0.trans (hb1.mono hB0.size)
  have X1 := hid (X0.out.later hb1)
  have Y1 := hid (Y0.out.later hb1)
  clear hb1 X0 Y0 hB0
  have x0 := X1.out.c 0 rfl
  have y0 := Y1.out.c 0 rfl
  have x1 := X1.out.c 1 rfl
  have y1 := Y1.out.c 1 rfl
  have x2 := X1.out.c 2 rfl
  have y2 := Y1.out.c 2 rfl
  have x3 := X1.out.c 3 rfl
  have y3 := Y1.out.c 3 rfl
  have x4 := X1.out.c 4 rfl
  have y4 := Y1.out.c 4 rfl
  have x5 := X1.out.c 5 rfl
  have y5 := Y1.out.c 5 rfl
  have x6 := X1.out.c 6 rfl
  have y6 := Y1.out.c 6 rfl
  have x7 := X1.out.c 7 rfl
  have y7 := Y1.out.c 7 rfl
  go_wp2_with fail
  refine (eqIntS_same fo fo' fc fc' f _ hlf (hz.2.later hB1) (hz'.2.later hB1)).mono ?_
  rintro e w2 ⟨rfl, hb2⟩
  have hB2 := hB1.trans (hb2.mono hB1.size)
  have X2 := hid (X1.out.later hb2)
  have Y2 := hid (Y1.out.later hb2)
  clear hb2 X1 Y1 hB1
  clear x0 y0 x1 y1 x2 y2 x3 y3 x4 y4 x5 y5 x6 y6 x7 y7
  have x0 := X2.out.c 0 rfl
  have y0 := Y2.out.c 0 rfl
  have x1 := X2.out.c 1 rfl
  have y1 := Y2.out.c 1 rfl
  have x2 := X2.out.c 2 rfl
  have y2 := Y2.out.c 2 rfl
  have x3 := X2.out.c 3 rfl
  have y3 := Y2.out.c 3 rfl
  have x4 := X2.out.c 4 rfl
  have y4 := Y2.out.c 4 rfl
  have x5 := X2.out.c 5 rfl
  have y5 := Y2.out.c 5 rfl
  have x6 := X2.out.c 6 rfl
  have y6 := Y2.out.c 6 rfl
  have x7 := X2.out.c 7 rfl
  have y7 := Y2.out.c 7 rfl
  go_wp2
  go_ret
  exact ⟨rfl, hB2⟩
end Go.Proofs.YtbpacibfboldcaaDoor
