
/- Pipes: sizes, copies, comparisons. No conditions but those written. -/
import Derived.Test.YtjdcaommbibkaaaDoorZb
namespace Go.Proofs.YtjdcaommbibkaaaDoor
open Go.RowKit

/-- Rows of tokens, wherever their heads lie. -/
def InTT (n : Nat) (W : World) (ao : Option Addr) (ls : List (List (Int × Int × Int))) : Prop := ∃ hs, InRT n W ao hs ls
/-- Rows of tokens in memory of their own. -/
def FrTT (lo hi : Nat) (W : World) (ao : Option Addr) (c : Nat) (ls : List (List (Int × Int × Int))) : Prop := ∃ hs, FrRT lo hi W ao c hs ls
section
variable {lo hi n : Nat} {W W' : World} {ao : Option Addr} {c : Nat} {ls : List (List (Int × Int × Int))}
theorem InTT.below (h : InTT n W ao ls) (hb : Below n W W') : InTT n W' ao ls := h.imp fun _ h => h.below hb
theorem InTT.later (h : InTT W.heap.size W ao ls) (hb : Below W.heap.size W W') : InTT W'.heap.size W' ao ls := h.imp fun _ h => h.later hb
theorem FrTT.in (h : FrTT lo hi W ao c ls) : InTT W.heap.size W ao ls := h.imp fun _ h => h.in
theorem FrTT.keep (h : FrTT lo hi W ao c ls) (hk : ∀ k, lo ≤ k → k < hi → k < W.heap.size → W'.heap[k]? = W.heap[k]?) : FrTT lo hi W' ao c ls := h.imp fun _ h => h.keep hk
theorem FrTT.later (h : FrTT lo hi W ao c ls) (hb : Below W.heap.size W W') : FrTT lo hi W' ao c ls := h.imp fun _ h => h.later hb
theorem FrTT.wide {lo' hi' : Nat} (h : FrTT lo hi W ao c ls) (h1 : lo' ≤ lo) (h2 : hi ≤ hi') : FrTT lo' hi' W ao c ls := h.imp fun _ h => h.wide h1 h2
theorem FrTT.between' {lo' hi' : Nat} (h : FrTT lo hi W ao c ls) (hb : Between lo' hi' W W') (hd : hi ≤ lo' ∨ hi' ≤ lo) : FrTT lo hi W' ao c ls := h.imp fun _ h => h.between' hb hd
theorem FrTT.setBelow (h : FrTT lo hi W ao c ls) {a : Addr} (ha : a.block < lo) (u : Value) : FrTT lo hi (W.setCell a u) ao c ls := h.keep fun k h1 _ _ => Below.heap_setCell W a u k (by omega)
theorem FrTT.setAbove (h : FrTT lo hi W ao c ls) {a : Addr} (ha : hi ≤ a.block) (u : Value) : FrTT lo hi (W.setCell a u) ao c ls := h.keep fun k _ h2 _ => Below.heap_setCell W a u k (by omega)
theorem FrTT.setOff (h : FrTT lo hi W ao c ls) {a : Addr} (ha : a.block < lo ∨ hi ≤ a.block) (u : Value) : FrTT lo hi (W.setCell a u) ao c ls := h.keep fun k h1 h2 _ => Below.heap_setCell W a u k (by omega)
end
theorem toTT_any (ao : Option Addr) (cap : Nat) (ls : List (List (Int × Int × Int))) (w : World) (hl : ls.length ≤ 1048576 ∧ totT ls ≤ 1048576) (hz : InTT w.heap.size w ao ls) :
    Calls Tryd.prog 15 #[.slice ao ls.length cap] w fun e w' => e = .returned (.slice (some ⟨w.heap.size, 0, none⟩) ls.length ls.length) ∧ FrTT w.heap.size w'.heap.size w' (some ⟨w.heap.size, 0, none⟩) ls.length ls ∧ Below w.heap.size w w' := by
  obtain ⟨hs, hz⟩ := hz
  exact toTokenSS_any ao cap hs ls w hl.1 hl.2 hz
theorem eqTT_same (ao bo : Option Addr) (cap cap' : Nat) (ls : List (List (Int × Int × Int))) (w : World) (hl : ls.length ≤ 1048576 ∧ totT ls ≤ 1048576) (hz : InTT w.heap.size w ao ls) (hz' : InTT w.heap.size w bo ls) :
    Calls Tryd.prog 21 #[.slice ao ls.length cap, .slice bo ls.length cap'] w fun e w' => e = .returned (.bool true) ∧ Below w.heap.size w w' := by
  obtain ⟨hs, hz⟩ := hz
  obtain ⟨hs', hz'⟩ := hz'
  exact eqTokenSS_same ao bo cap cap' hs hs' ls w hl.1 hl.2 hz hz'
/-- What lies behind a Pipe. -/
def InPipe (n : Nat) (W : World) (bxo : Option Addr) (bx : List (List (Int × Int × Int))) (emo : Option Addr) (em : List (Int × Int × Int)) (fao : Option Addr) (fa : List (Int × Int × Int × Int)) (fuo : Option Addr) (fu : List (Int)) : Prop := InTT n W bxo bx ∧ kOu.In n W emo em ∧ kLo.In n W fao fa ∧ kI.In n W fuo fu
/-- What lies behind a Pipe, in memory of its own. -/
def FrPipe (lo hi : Nat) (W : World) (bxo : Option Addr) (bxc : Nat) (bx : List (List (Int × Int × Int))) (emo : Option Addr) (emc : Nat) (em : List (Int × Int × Int)) (fao : Option Addr) (fac : Nat) (fa : List (Int × Int × Int × Int)) (fuo : Option Addr) (fuc : Nat) (fu : List (Int)) : Prop := FrTT lo hi W bxo bxc bx ∧ kOu.Fresh lo hi W emo emc em ∧ kLo.Fresh lo hi W fao fac fa ∧ kI.Fresh lo hi W fuo fuc fu
theorem InPipe.later {W W' : World} {bxo : Option Addr} {bx : List (List (Int × Int × Int))} {emo : Option Addr} {em : List (Int × Int × Int)} {fao : Option Addr} {fa : List (Int × Int × Int × Int)} {fuo : Option Addr} {fu : List (Int)} (h : InPipe W.heap.size W bxo bx emo em fao fa fuo fu) (hb : Below W.heap.size W W') : InPipe W'.heap.size W' bxo bx emo em fao fa fuo fu := ⟨h.1.later hb, h.2.1.later hb, h.2.2.1.later hb, h.2.2.2.later hb⟩
theorem InPipe.below {n : Nat} {W W' : World} {bxo : Option Addr} {bx : List (List (Int × Int × Int))} {emo : Option Addr} {em : List (Int × Int × Int)} {fao : Option Addr} {fa : List (Int × Int × Int × Int)} {fuo : Option Addr} {fu : List (Int)} (h : InPipe n W bxo bx emo em fao fa fuo fu) (hb : Below n W W') : InPipe n W' bxo bx emo em fao fa fuo fu := ⟨h.1.below hb, h.2.1.below hb, h.2.2.1.below hb, h.2.2.2.below hb⟩
theorem FrPipe.in {lo hi : Nat} {W : World} {bxo : Option Addr} {bxc : Nat} {bx : List (List (Int × Int × Int))} {emo : Option Addr} {emc : Nat} {em : List (Int × Int × Int)} {fao : Option Addr} {fac : Nat} {fa : List (Int × Int × Int × Int)} {fuo : Option Addr} {fuc : Nat} {fu : List (Int)} (h : FrPipe lo hi W bxo bxc bx emo emc em fao fac fa fuo fuc fu) : InPipe W.heap.size W bxo bx emo em fao fa fuo fu := ⟨h.1.in, h.2.1.in, h.2.2.1.in, h.2.2.2.in⟩
theorem FrPipe.later {lo hi : Nat} {W W' : World} {bxo : Option Addr} {bxc : Nat} {bx : List (List (Int × Int × Int))} {emo : Option Addr} {emc : Nat} {em : List (Int × Int × Int)} {fao : Option Addr} {fac : Nat} {fa : List (Int × Int × Int × Int)} {fuo : Option Addr} {fuc : Nat} {fu : List (Int)} (h : FrPipe lo hi W bxo bxc bx emo emc em fao fac fa fuo fuc fu) (hb : Below W.heap.size W W') : FrPipe lo hi W' bxo bxc bx emo emc em fao fac fa fuo fuc fu := ⟨h.1.later hb, h.2.1.later hb, h.2.2.1.later hb, h.2.2.2.later hb⟩
theorem FrPipe.keep {lo hi : Nat} {W W' : World} {bxo : Option Addr} {bxc : Nat} {bx : List (List (Int × Int × Int))} {emo : Option Addr} {emc : Nat} {em : List (Int × Int × Int)} {fao : Option Addr} {fac : Nat} {fa : List (Int × Int × Int × Int)} {fuo : Option Addr} {fuc : Nat} {fu : List (Int)} (h : FrPipe lo hi W bxo bxc bx emo emc em fao fac fa fuo fuc fu) (hk : ∀ k, lo ≤ k → k < hi → k < W.heap.size → W'.heap[k]? = W.heap[k]?) : FrPipe lo hi W' bxo bxc bx emo emc em fao fac fa fuo fuc fu := ⟨h.1.keep hk, h.2.1.keep hk, h.2.2.1.keep hk, h.2.2.2.keep hk⟩
theorem FrPipe.wide {lo hi lo' hi' : Nat} {W : World} {bxo : Option Addr} {bxc : Nat} {bx : List (List (Int × Int × Int))} {emo : Option Addr} {emc : Nat} {em : List (Int × Int × Int)} {fao : Option Addr} {fac : Nat} {fa : List (Int × Int × Int × Int)} {fuo : Option Addr} {fuc : Nat} {fu : List (Int)} (h : FrPipe lo hi W bxo bxc bx emo emc em fao fac fa fuo fuc fu) (h1 : lo' ≤ lo) (h2 : hi ≤ hi') : FrPipe lo' hi' W bxo bxc bx emo emc em fao fac fa fuo fuc fu := ⟨h.1.wide h1 h2, h.2.1.wide h1 h2, h.2.2.1.wide h1 h2, h.2.2.2.wide h1 h2⟩
theorem FrPipe.setBelow {lo hi : Nat} {W : World} {bxo : Option Addr} {bxc : Nat} {bx : List (List (Int × Int × Int))} {emo : Option Addr} {emc : Nat} {em : List (Int × Int × Int)} {fao : Option Addr} {fac : Nat} {fa : List (Int × Int × Int × Int)} {fuo : Option Addr} {fuc : Nat} {fu : List (Int)} (h : FrPipe lo hi W bxo bxc bx emo emc em fao fac fa fuo fuc fu) {a : Addr} (ha : a.block < lo) (u : Value) : FrPipe lo hi (W.setCell a u) bxo bxc bx emo emc em fao fac fa fuo fuc fu := ⟨h.1.setBelow ha u, h.2.1.setBelow ha u, h.2.2.1.setBelow ha u, h.2.2.2.setBelow ha u⟩
theorem FrPipe.setAbove {lo hi : Nat} {W : World} {bxo : Option Addr} {bxc : Nat} {bx : List (List (Int × Int × Int))} {emo : Option Addr} {emc : Nat} {em : List (Int × Int × Int)} {fao : Option Addr} {fac : Nat} {fa : List (Int × Int × Int × Int)} {fuo : Option Addr} {fuc : Nat} {fu : List (Int)} (h : FrPipe lo hi W bxo bxc bx emo emc em fao fac fa fuo fuc fu) {a : Addr} (ha : hi ≤ a.block) (u : Value) : FrPipe lo hi (W.setCell a u) bxo bxc bx emo emc em fao fac fa fuo fuc fu := ⟨h.1.setAbove ha u, h.2.1.setAbove ha u, h.2.2.1.setAbove ha u, h.2.2.2.setAbove ha u⟩
theorem FrPipe.setOff {lo hi : Nat} {W : World} {bxo : Option Addr} {bxc : Nat} {bx : List (List (Int × Int × Int))} {emo : Option Addr} {emc : Nat} {em : List (Int × Int × Int)} {fao : Option Addr} {fac : Nat} {fa : List (Int × Int × Int × Int)} {fuo : Option Addr} {fuc : Nat} {fu : List (Int)} (h : FrPipe lo hi W bxo bxc bx emo emc em fao fac fa fuo fuc fu) {a : Addr} (ha : a.block < lo ∨ hi ≤ a.block) (u : Value) : FrPipe lo hi (W.setCell a u) bxo bxc bx emo emc em fao fac fa fuo fuc fu := ⟨h.1.setOff ha u, h.2.1.setOff ha u, h.2.2.1.setOff ha u, h.2.2.2.setOff ha u⟩
theorem FrPipe.between' {lo hi lo' hi' : Nat} {W W' : World} {bxo : Option Addr} {bxc : Nat} {bx : List (List (Int × Int × Int))} {emo : Option Addr} {emc : Nat} {em : List (Int × Int × Int)} {fao : Option Addr} {fac : Nat} {fa : List (Int × Int × Int × Int)} {fuo : Option Addr} {fuc : Nat} {fu : List (Int)} (h : FrPipe lo hi W bxo bxc bx emo emc em fao fac fa fuo fuc fu) (hb : Between lo' hi' W W') (hd : hi ≤ lo' ∨ hi' ≤ lo) : FrPipe lo hi W' bxo bxc bx emo emc em fao fac fa fuo fuc fu := ⟨h.1.between' hb hd, h.2.1.between' hb hd, h.2.2.1.between' hb hd, h.2.2.2.between' hb hd⟩
set_option maxHeartbeats 2000000 in
theorem szPipe_any (ti it : Int) (cl : Bool) (bxo : Option Addr) (bxc : Nat) (bx : List (List (Int × Int × Int))) (emo : Option Addr) (nem emc : Nat) (fao : Option Addr) (nfa fac : Nat) (fuo : Option Addr) (nfu fuc : Nat) (w : World) (hlbx : bx.length ≤ 9223372036854775807) (hle : ∀ l ∈ bx, l.length ≤ 9223372036854775807) (hlem : nem ≤ 9223372036854775807) (hlfa : nfa ≤ 9223372036854775807) (hlfu : nfu ≤ 9223372036854775807) (hz : InTT w.heap.size w bxo bx) :
    Calls Tryd.prog 4 #[.agg #[.int .i64 ti, .int .i64 it, .bool cl, .slice bxo bx.length bxc, .slice emo nem emc, .slice fao nfa fac, .slice fuo nfu fuc], .int .i64 1048576] w fun e w' => (∃ z : Int, e = .returned (.int .i64 z) ∧ ((z < 0) ∨ (0 ≤ z ∧ (bx.length ≤ 1048576 ∧ totT bx ≤ 1048576) ∧ nem ≤ 1048576 ∧ nfa ≤ 1048576 ∧ nfu ≤ 1048576))) ∧ Below w.heap.size w w' := by
  have hB0 := below1 w (.cells #[.int .i64 ti, .int .i64 it, .bool cl, .slice bxo bx.length bxc, .slice emo nem emc, .slice fao nfa fac, .slice fuo nfu fuc] 27)
  obtain ⟨hs, hz⟩ := hz
  have HZ := hid (hz.later hB0)
  clear hz
  go_enter Tryd.func4, Tryd.ntmps4
  go_wp2_with fail
  refine (szTokenSS_any bxo bxc hs bx _ _ (by omega) (by omega) hlbx hle HZ.out).mono ?_
  rintro e w1 ⟨⟨z0, rfl, hr0, hs0⟩, rfl⟩
  by_cases h0 : z0 < 0
  · go_wp2
    go_ret
    exact ⟨⟨_, rfl, by omega⟩, hB0⟩
  go_wp2_with fail
  refine (szOutS_any _ _ _ _ _ (by omega) (by omega) hlem).mono ?_
  rintro e w1 ⟨⟨z1, rfl, hr1, hs1⟩, rfl⟩
  by_cases h1 : z1 < 0
  · go_wp2
    go_ret
    exact ⟨⟨_, rfl, by omega⟩, hB0⟩
  go_wp2_with fail
  refine (szLostS_any _ _ _ _ _ (by omega) (by omega) hlfa).mono ?_
  rintro e w1 ⟨⟨z2, rfl, hr2, hs2⟩, rfl⟩
  by_cases h2 : z2 < 0
  · go_wp2
    go_ret
    exact ⟨⟨_, rfl, by omega⟩, hB0⟩
  go_wp2_with fail
  refine (szIntS_any _ _ _ _ _ (by omega) (by omega) hlfu).mono ?_
  rintro e w1 ⟨⟨z3, rfl, hr3, hs3⟩, rfl⟩
  by_cases h3 : z3 < 0
  · go_wp2
    go_ret
    exact ⟨⟨_, rfl, by omega⟩, hB0⟩
  go_wp2
  go_ret
  exact ⟨⟨_, rfl, by omega⟩, hB0⟩
set_option maxRecDepth 10000 in
set_option maxHeartbeats 4000000 in
theorem toPipe_any (ti : Int) (it : Int) (cl : Bool) (bxo : Option Addr) (bxc : Nat) (bx : List (List (Int × Int × Int))) (emo : Option Addr) (emc : Nat) (em : List (Int × Int × Int)) (fao : Option Addr) (fac : Nat) (fa : List (Int × Int × Int × Int)) (fuo : Option Addr) (fuc : Nat) (fu : List (Int)) (w : World) (hlbx : bx.length ≤ 1048576 ∧ totT bx ≤ 1048576) (hlem : em.length ≤ 1048576) (hlfa : fa.length ≤ 1048576) (hlfu : fu.length ≤ 1048576) (hz : InPipe w.heap.size w bxo bx emo em fao fa fuo fu) :
    Calls Tryd.prog 6 #[.agg #[.int .i64 ti, .int .i64 it, .bool cl, .slice bxo bx.length bxc, .slice emo em.length emc, .slice fao fa.length fac, .slice fuo fu.length fuc]] w fun e w' => ∃ gbx gem gfa gfu, e = .returned (.agg #[.int .i64 ti, .int .i64 it, .bool cl, .slice (some ⟨gbx, 0, none⟩) bx.length bx.length, .slice (some ⟨gem, 0, none⟩) em.length em.length, .slice (some ⟨gfa, 0, none⟩) fa.length fa.length, .slice (some ⟨gfu, 0, none⟩) fu.length fu.length]) ∧ FrPipe w.heap.size w'.heap.size w' (some ⟨gbx, 0, none⟩) bx.length bx (some ⟨gem, 0, none⟩) em.length em (some ⟨gfa, 0, none⟩) fa.length fa (some ⟨gfu, 0, none⟩) fu.length fu ∧ Below w.heap.size w w' := by
  go_enter Tryd.func6, Tryd.ntmps6
  go_wp2_with fail
  obtain ⟨V0, hV0⟩ : ∃ V0, V0 = (((w.alloc (.cells #[.int .i64 ti, .int .i64 it, .bool cl, .slice bxo bx.length bxc, .slice emo em.length emc, .slice fao fa.length fac, .slice fuo fu.length fuc] 27)).alloc (.cells #[.int .i64 0, .int .i64 0, .bool false, .slice none 0 0, .slice none 0 0, .slice none 0 0, .slice none 0 0] 34)).alloc (.cells #[.int .i64 ti, .int .i64 it, .bool cl, .slice none 0 0, .slice none 0 0, .slice none 0 0, .slice none 0 0] 34)) := ⟨_, rfl⟩
  rw [← hV0]
  have hs0 : V0.heap.size = w.heap.size + 1 + 1 + 1 := by rw [hV0]; simp
  have hB0 : Below w.heap.size w V0 := by rw [hV0]; exact below3 _ _ _ _
  have A0 : Hid (Bx V0 (w.heap.size) [.int .i64 ti, .int .i64 it, .bool cl, .slice bxo bx.length bxc, .slice emo em.length emc, .slice fao fa.length fac, .slice fuo fu.length fuc]) := by rw [hV0]; exact ((Bx.new [.int .i64 ti, .int .i64 it, .bool cl, .slice bxo bx.length bxc, .slice emo em.length emc, .slice fao fa.length fac, .slice fuo fu.length fuc] _ rfl).alloc _).alloc _
  have R0 : Hid (Bx V0 (w.heap.size + 1) [.int .i64 0, .int .i64 0, .bool false, .slice none 0 0, .slice none 0 0, .slice none 0 0, .slice none 0 0]) := by rw [hV0]; exact (Bx.new [.int .i64 0, .int .i64 0, .bool false, .slice none 0 0, .slice none 0 0, .slice none 0 0, .slice none 0 0] _ (by simp)).alloc _
  have O0 : Hid (Bx V0 (w.heap.size + 1 + 1) [.int .i64 ti, .int .i64 it, .bool cl, .slice none 0 0, .slice none 0 0, .slice none 0 0, .slice none 0 0]) := by rw [hV0]; exact Bx.new [.int .i64 ti, .int .i64 it, .bool cl, .slice none 0 0, .slice none 0 0, .slice none 0 0, .slice none 0 0] _ (by simp)
  clear hV0
  have HS0 : Hid (V0.heap.size = w.heap.size + 1 + 1 + 1) := hs0
  clear hs0
  refine (toTT_any bxo bxc bx _ hlbx (hz.1.later hB0)).mono ?_
  rintro e w1 ⟨rfl, hT0, hb0⟩
  obtain ⟨gbx, hgbx⟩ : ∃ g, g = V0.heap.size := ⟨_, rfl⟩
  rw [← hgbx] at hT0 ⊢
  have HG0 : Hid (gbx = V0.heap.size) := hgbx
  clear hgbx
  have hBw0 := hB0.trans (hb0.mono hB0.size)
  have Aw0 := hid (A0.out.later hb0)
  have Rw0 := hid (R0.out.later hb0)
  have Ow0 := hid (O0.out.later hb0)
  have Fy0 : Hid (FrTT gbx w1.heap.size w1 (some ⟨gbx, 0, none⟩) bx.length bx) := hT0
  have HZ0 : Hid (V0.heap.size ≤ w1.heap.size) := hb0.size
  clear hT0 hb0 A0 R0 O0 hB0
  have a0 := Aw0.out.c 0 rfl
  have o0 := Ow0.out.c 0 rfl
  have of0 := Ow0.out.f 0 rfl
  have a1 := Aw0.out.c 1 rfl
  have o1 := Ow0.out.c 1 rfl
  have of1 := Ow0.out.f 1 rfl
  have a2 := Aw0.out.c 2 rfl
  have o2 := Ow0.out.c 2 rfl
  have of2 := Ow0.out.f 2 rfl
  have a3 := Aw0.out.c 3 rfl
  have o3 := Ow0.out.c 3 rfl
  have of3 := Ow0.out.f 3 rfl
  have a4 := Aw0.out.c 4 rfl
  have o4 := Ow0.out.c 4 rfl
  have of4 := Ow0.out.f 4 rfl
  have a5 := Aw0.out.c 5 rfl
  have o5 := Ow0.out.c 5 rfl
  have of5 := Ow0.out.f 5 rfl
  have a6 := Aw0.out.c 6 rfl
  have o6 := Ow0.out.c 6 rfl
  have of6 := Ow0.out.f 6 rfl
  obtain ⟨V1, hV1⟩ : ∃ V, V = (w1.setCell ⟨w.heap.size + 1 + 1, 3, none⟩ (.slice (some ⟨gbx, 0, none⟩) bx.length bx.length)) := ⟨_, rfl⟩
  have HV1 : Hid (V1 = (w1.setCell ⟨w.heap.size + 1 + 1, 3, none⟩ (.slice (some ⟨gbx, 0, none⟩) bx.length bx.length))) := hV1
  have hB1 : Below w.heap.size w V1 := by rw [hV1]; exact (hBw0.setCell (p := ⟨w.heap.size + 1 + 1, 3, none⟩) (by simp; omega) _)
  have A1 : Hid (Bx V1 (w.heap.size) [.int .i64 ti, .int .i64 it, .bool cl, .slice bxo bx.length bxc, .slice emo em.length emc, .slice fao fa.length fac, .slice fuo fu.length fuc]) := by rw [hV1]; exact (Aw0.out.other (a := ⟨w.heap.size + 1 + 1, 3, none⟩) (by simp; omega) (.slice (some ⟨gbx, 0, none⟩) bx.length bx.length))
  have R1 : Hid (Bx V1 (w.heap.size + 1) [.int .i64 0, .int .i64 0, .bool false, .slice none 0 0, .slice none 0 0, .slice none 0 0, .slice none 0 0]) := by rw [hV1]; exact (Rw0.out.other (a := ⟨w.heap.size + 1 + 1, 3, none⟩) (by simp) (.slice (some ⟨gbx, 0, none⟩) bx.length bx.length))
  have O1 : Hid (Bx V1 (w.heap.size + 1 + 1) [.int .i64 ti, .int .i64 it, .bool cl, .slice (some ⟨gbx, 0, none⟩) bx.length bx.length, .slice none 0 0, .slice none 0 0, .slice none 0 0]) := by rw [hV1]; exact (Ow0.out.set 3 (.slice (some ⟨gbx, 0, none⟩) bx.length bx.length))
  have HL0 : Hid (w.heap.size + 1 + 1 < gbx) := by have := HS0.out; have := HG0.out; unfold Hid; omega
  have Fz1 : Hid (FrTT gbx w1.heap.size V1 (some ⟨gbx, 0, none⟩) bx.length bx) := by rw [hV1]; exact (Fy0.out.setBelow (a := ⟨w.heap.size + 1 + 1, 3, none⟩) HL0.out (.slice (some ⟨gbx, 0, none⟩) bx.length bx.length))
  have HSV1 : Hid (V1.heap.size = w1.heap.size) := by rw [hV1]; simp [World.setCell, Hid]
  clear hV1 Aw0 Rw0 Ow0 Fy0 hBw0 HL0
  go_wp2_with fail
  rw [← HV1.out]
  refine (toOutS_any emo emc em _ hlem (hz.2.1.later hB1)).mono ?_
  rintro e w2 ⟨rfl, hT1, hb1⟩
  obtain ⟨gem, hgem⟩ : ∃ g, g = V1.heap.size := ⟨_, rfl⟩
  rw [← hgem] at hT1 ⊢
  have HG1 : Hid (gem = V1.heap.size) := hgem
  clear hgem
  have hBw1 := hB1.trans (hb1.mono hB1.size)
  have Aw1 := hid (A1.out.later hb1)
  have Rw1 := hid (R1.out.later hb1)
  have Ow1 := hid (O1.out.later hb1)
  have Fy1 : Hid (FrTT gbx w1.heap.size w2 (some ⟨gbx, 0, none⟩) bx.length bx ∧ kOu.Fresh gem w2.heap.size w2 (some ⟨gem, 0, none⟩) em.length em) := ⟨Fz1.out.later hb1, hT1⟩
  have HZ1 : Hid (V1.heap.size ≤ w2.heap.size) := hb1.size
  clear hT1 hb1 A1 R1 O1 hB1 Fz1
  clear a0 o0 of0 a1 o1 of1 a2 o2 of2 a3 o3 of3 a4 o4 of4 a5 o5 of5 a6 o6 of6
  have a0 := Aw1.out.c 0 rfl
  have o0 := Ow1.out.c 0 rfl
  have of0 := Ow1.out.f 0 rfl
  have a1 := Aw1.out.c 1 rfl
  have o1 := Ow1.out.c 1 rfl
  have of1 := Ow1.out.f 1 rfl
  have a2 := Aw1.out.c 2 rfl
  have o2 := Ow1.out.c 2 rfl
  have of2 := Ow1.out.f 2 rfl
  have a3 := Aw1.out.c 3 rfl
  have o3 := Ow1.out.c 3 rfl
  have of3 := Ow1.out.f 3 rfl
  have a4 := Aw1.out.c 4 rfl
  have o4 := Ow1.out.c 4 rfl
  have of4 := Ow1.out.f 4 rfl
  have a5 := Aw1.out.c 5 rfl
  have o5 := Ow1.out.c 5 rfl
  have of5 := Ow1.out.f 5 rfl
  have a6 := Aw1.out.c 6 rfl
  have o6 := Ow1.out.c 6 rfl
  have of6 := Ow1.out.f 6 rfl
  obtain ⟨V2, hV2⟩ : ∃ V, V = (w2.setCell ⟨w.heap.size + 1 + 1, 4, none⟩ (.slice (some ⟨gem, 0, none⟩) em.length em.length)) := ⟨_, rfl⟩
  have HV2 : Hid (V2 = (w2.setCell ⟨w.heap.size + 1 + 1, 4, none⟩ (.slice (some ⟨gem, 0, none⟩) em.length em.length))) := hV2
  have hB2 : Below w.heap.size w V2 := by rw [hV2]; exact (hBw1.setCell (p := ⟨w.heap.size + 1 + 1, 4, none⟩) (by simp; omega) _)
  have A2 : Hid (Bx V2 (w.heap.size) [.int .i64 ti, .int .i64 it, .bool cl, .slice bxo bx.length bxc, .slice emo em.length emc, .slice fao fa.length fac, .slice fuo fu.length fuc]) := by rw [hV2]; exact (Aw1.out.other (a := ⟨w.heap.size + 1 + 1, 4, none⟩) (by simp; omega) (.slice (some ⟨gem, 0, none⟩) em.length em.length))
  have R2 : Hid (Bx V2 (w.heap.size + 1) [.int .i64 0, .int .i64 0, .bool false, .slice none 0 0, .slice none 0 0, .slice none 0 0, .slice none 0 0]) := by rw [hV2]; exact (Rw1.out.other (a := ⟨w.heap.size + 1 + 1, 4, none⟩) (by simp) (.slice (some ⟨gem, 0, none⟩) em.length em.length))
  have O2 : Hid (Bx V2 (w.heap.size + 1 + 1) [.int .i64 ti, .int .i64 it, .bool cl, .slice (some ⟨gbx, 0, none⟩) bx.length bx.length, .slice (some ⟨gem, 0, none⟩) em.length em.length, .slice none 0 0, .slice none 0 0]) := by rw [hV2]; exact (Ow1.out.set 4 (.slice (some ⟨gem, 0, none⟩) em.length em.length))
  have HL0 : Hid (w.heap.size + 1 + 1 < gbx) := by have := HS0.out; have := HG0.out; unfold Hid; omega
  have HL1 : Hid (w.heap.size + 1 + 1 < gem) := by have := HS0.out; have := HG0.out;  have := HG1.out; have := HZ0.out; have := HSV1.out; unfold Hid; omega
  have Fz2 : Hid (FrTT gbx w1.heap.size V2 (some ⟨gbx, 0, none⟩) bx.length bx ∧ kOu.Fresh gem w2.heap.size V2 (some ⟨gem, 0, none⟩) em.length em) := by rw [hV2]; exact ⟨(Fy1.out.1.setBelow (a := ⟨w.heap.size + 1 + 1, 4, none⟩) HL0.out (.slice (some ⟨gem, 0, none⟩) em.length em.length)), (Fy1.out.2.setBelow (a := ⟨w.heap.size + 1 + 1, 4, none⟩) HL1.out (.slice (some ⟨gem, 0, none⟩) em.length em.length))⟩
  have HSV2 : Hid (V2.heap.size = w2.heap.size) := by rw [hV2]; simp [World.setCell, Hid]
  clear hV2 Aw1 Rw1 Ow1 Fy1 hBw1 HL0 HL1
  go_wp2_with fail
  rw [← HV2.out]
  refine (toLostS_any fao fac fa _ hlfa (hz.2.2.1.later hB2)).mono ?_
  rintro e w3 ⟨rfl, hT2, hb2⟩
  obtain ⟨gfa, hgfa⟩ : ∃ g, g = V2.heap.size := ⟨_, rfl⟩
  rw [← hgfa] at hT2 ⊢
  have HG2 : Hid (gfa = V2.heap.size) := hgfa
  clear hgfa
  have hBw2 := hB2.trans (hb2.mono hB2.size)
  have Aw2 := hid (A2.out.later hb2)
  have Rw2 := hid (R2.out.later hb2)
  have Ow2 := hid (O2.out.later hb2)
  have Fy2 : Hid (FrTT gbx w1.heap.size w3 (some ⟨gbx, 0, none⟩) bx.length bx ∧ kOu.Fresh gem w2.heap.size w3 (some ⟨gem, 0, none⟩) em.length em ∧ kLo.Fresh gfa w3.heap.size w3 (some ⟨gfa, 0, none⟩) fa.length fa) := ⟨Fz2.out.1.later hb2, Fz2.out.2.later hb2, hT2⟩
  have HZ2 : Hid (V2.heap.size ≤ w3.heap.size) := hb2.size
  clear hT2 hb2 A2 R2 O2 hB2 Fz2
  clear a0 o0 of0 a1 o1 of1 a2 o2 of2 a3 o3 of3 a4 o4 of4 a5 o5 of5 a6 o6 of6
  have a0 := Aw2.out.c 0 rfl
  have o0 := Ow2.out.c 0 rfl
  have of0 := Ow2.out.f 0 rfl
  have a1 := Aw2.out.c 1 rfl
  have o1 := Ow2.out.c 1 rfl
  have of1 := Ow2.out.f 1 rfl
  have a2 := Aw2.out.c 2 rfl
  have o2 := Ow2.out.c 2 rfl
  have of2 := Ow2.out.f 2 rfl
  have a3 := Aw2.out.c 3 rfl
  have o3 := Ow2.out.c 3 rfl
  have of3 := Ow2.out.f 3 rfl
  have a4 := Aw2.out.c 4 rfl
  have o4 := Ow2.out.c 4 rfl
  have of4 := Ow2.out.f 4 rfl
  have a5 := Aw2.out.c 5 rfl
  have o5 := Ow2.out.c 5 rfl
  have of5 := Ow2.out.f 5 rfl
  have a6 := Aw2.out.c 6 rfl
  have o6 := Ow2.out.c 6 rfl
  have of6 := Ow2.out.f 6 rfl
  obtain ⟨V3, hV3⟩ : ∃ V, V = (w3.setCell ⟨w.heap.size + 1 + 1, 5, none⟩ (.slice (some ⟨gfa, 0, none⟩) fa.length fa.length)) := ⟨_, rfl⟩
  have HV3 : Hid (V3 = (w3.setCell ⟨w.heap.size + 1 + 1, 5, none⟩ (.slice (some ⟨gfa, 0, none⟩) fa.length fa.length))) := hV3
  have hB3 : Below w.heap.size w V3 := by rw [hV3]; exact (hBw2.setCell (p := ⟨w.heap.size + 1 + 1, 5, none⟩) (by simp; omega) _)
  have A3 : Hid (Bx V3 (w.heap.size) [.int .i64 ti, .int .i64 it, .bool cl, .slice bxo bx.length bxc, .slice emo em.length emc, .slice fao fa.length fac, .slice fuo fu.length fuc]) := by rw [hV3]; exact (Aw2.out.other (a := ⟨w.heap.size + 1 + 1, 5, none⟩) (by simp; omega) (.slice (some ⟨gfa, 0, none⟩) fa.length fa.length))
  have R3 : Hid (Bx V3 (w.heap.size + 1) [.int .i64 0, .int .i64 0, .bool false, .slice none 0 0, .slice none 0 0, .slice none 0 0, .slice none 0 0]) := by rw [hV3]; exact (Rw2.out.other (a := ⟨w.heap.size + 1 + 1, 5, none⟩) (by simp) (.slice (some ⟨gfa, 0, none⟩) fa.length fa.length))
  have O3 : Hid (Bx V3 (w.heap.size + 1 + 1) [.int .i64 ti, .int .i64 it, .bool cl, .slice (some ⟨gbx, 0, none⟩) bx.length bx.length, .slice (some ⟨gem, 0, none⟩) em.length em.length, .slice (some ⟨gfa, 0, none⟩) fa.length fa.length, .slice none 0 0]) := by rw [hV3]; exact (Ow2.out.set 5 (.slice (some ⟨gfa, 0, none⟩) fa.length fa.length))
  have HL0 : Hid (w.heap.size + 1 + 1 < gbx) := by have := HS0.out; have := HG0.out; unfold Hid; omega
  have HL1 : Hid (w.heap.size + 1 + 1 < gem) := by have := HS0.out; have := HG0.out;  have := HG1.out; have := HZ0.out; have := HSV1.out; unfold Hid; omega
  have HL2 : Hid (w.heap.size + 1 + 1 < gfa) := by have := HS0.out; have := HG0.out;  have := HG1.out;  have := HG2.out; have := HZ0.out; have := HSV1.out;  have := HZ1.out; have := HSV2.out; unfold Hid; omega
  have Fz3 : Hid (FrTT gbx w1.heap.size V3 (some ⟨gbx, 0, none⟩) bx.length bx ∧ kOu.Fresh gem w2.heap.size V3 (some ⟨gem, 0, none⟩) em.length em ∧ kLo.Fresh gfa w3.heap.size V3 (some ⟨gfa, 0, none⟩) fa.length fa) := by rw [hV3]; exact ⟨(Fy2.out.1.setBelow (a := ⟨w.heap.size + 1 + 1, 5, none⟩) HL0.out (.slice (some ⟨gfa, 0, none⟩) fa.length fa.length)), (Fy2.out.2.1.setBelow (a := ⟨w.heap.size + 1 + 1, 5, none⟩) HL1.out (.slice (some ⟨gfa, 0, none⟩) fa.length fa.length)), (Fy2.out.2.2.setBelow (a := ⟨w.heap.size + 1 + 1, 5, none⟩) HL2.out (.slice (some ⟨gfa, 0, none⟩) fa.length fa.length))⟩
  have HSV3 : Hid (V3.heap.size = w3.heap.size) := by rw [hV3]; simp [World.setCell, Hid]
  clear hV3 Aw2 Rw2 Ow2 Fy2 hBw2 HL0 HL1 HL2
  go_wp2_with fail
  rw [← HV3.out]
  refine (toIntS_any fuo fuc fu _ hlfu (hz.2.2.2.later hB3)).mono ?_
  rintro e w4 ⟨rfl, hT3, hb3⟩
  obtain ⟨gfu, hgfu⟩ : ∃ g, g = V3.heap.size := ⟨_, rfl⟩
  rw [← hgfu] at hT3 ⊢
  have HG3 : Hid (gfu = V3.heap.size) := hgfu
  clear hgfu
  have hBw3 := hB3.trans (hb3.mono hB3.size)
  have Aw3 := hid (A3.out.later hb3)
  have Rw3 := hid (R3.out.later hb3)
  have Ow3 := hid (O3.out.later hb3)
  have Fy3 : Hid (FrTT gbx w1.heap.size w4 (some ⟨gbx, 0, none⟩) bx.length bx ∧ kOu.Fresh gem w2.heap.size w4 (some ⟨gem, 0, none⟩) em.length em ∧ kLo.Fresh gfa w3.heap.size w4 (some ⟨gfa, 0, none⟩) fa.length fa ∧ kI.Fresh gfu w4.heap.size w4 (some ⟨gfu, 0, none⟩) fu.length fu) := ⟨Fz3.out.1.later hb3, Fz3.out.2.1.later hb3, Fz3.out.2.2.later hb3, hT3⟩
  have HZ3 : Hid (V3.heap.size ≤ w4.heap.size) := hb3.size
  clear hT3 hb3 A3 R3 O3 hB3 Fz3
  clear a0 o0 of0 a1 o1 of1 a2 o2 of2 a3 o3 of3 a4 o4 of4 a5 o5 of5 a6 o6 of6
  have a0 := Aw3.out.c 0 rfl
  have o0 := Ow3.out.c 0 rfl
  have of0 := Ow3.out.f 0 rfl
  have a1 := Aw3.out.c 1 rfl
  have o1 := Ow3.out.c 1 rfl
  have of1 := Ow3.out.f 1 rfl
  have a2 := Aw3.out.c 2 rfl
  have o2 := Ow3.out.c 2 rfl
  have of2 := Ow3.out.f 2 rfl
  have a3 := Aw3.out.c 3 rfl
  have o3 := Ow3.out.c 3 rfl
  have of3 := Ow3.out.f 3 rfl
  have a4 := Aw3.out.c 4 rfl
  have o4 := Ow3.out.c 4 rfl
  have of4 := Ow3.out.f 4 rfl
  have a5 := Aw3.out.c 5 rfl
  have o5 := Ow3.out.c 5 rfl
  have of5 := Ow3.out.f 5 rfl
  have a6 := Aw3.out.c 6 rfl
  have o6 := Ow3.out.c 6 rfl
  have of6 := Ow3.out.f 6 rfl
  have r0 := Rw3.out.c 0 rfl
  have rf0 := Rw3.out.f 0 rfl
  have r1 := Rw3.out.c 1 rfl
  have rf1 := Rw3.out.f 1 rfl
  have r2 := Rw3.out.c 2 rfl
  have rf2 := Rw3.out.f 2 rfl
  have r3 := Rw3.out.c 3 rfl
  have rf3 := Rw3.out.f 3 rfl
  have r4 := Rw3.out.c 4 rfl
  have rf4 := Rw3.out.f 4 rfl
  have r5 := Rw3.out.c 5 rfl
  have rf5 := Rw3.out.f 5 rfl
  have r6 := Rw3.out.c 6 rfl
  have rf6 := Rw3.out.f 6 rfl
  go_wp2
  refine bodyPost_ret (v := .agg #[.int .i64 ti, .int .i64 it, .bool cl, .slice (some ⟨gbx, 0, none⟩) bx.length bx.length, .slice (some ⟨gem, 0, none⟩) em.length em.length, .slice (some ⟨gfa, 0, none⟩) fa.length fa.length, .slice (some ⟨gfu, 0, none⟩) fu.length fu.length]) (by simp [results, Tryd.results6, go_sem, r0, r1, r2, r3, r4, r5, r6]) rfl ⟨_, _, _, _, rfl, ?_, ?_⟩
  · have := HS0.out
    have := HG0.out
    have := HG1.out
    have := HG2.out
    have := HG3.out
    have := HZ0.out
    have := HZ1.out
    have := HZ2.out
    have := HZ3.out
    have := HSV1.out
    have := HSV2.out
    have := HSV3.out
    have h0 : FrPipe (w.heap.size + 1 + 1 + 1) w4.heap.size w4 (some ⟨gbx, 0, none⟩) bx.length bx (some ⟨gem, 0, none⟩) em.length em (some ⟨gfa, 0, none⟩) fa.length fa (some ⟨gfu, 0, none⟩) fu.length fu := ⟨Fy3.out.1.wide (by omega) (by omega), Fy3.out.2.1.wide (by omega) (by omega), Fy3.out.2.2.1.wide (by omega) (by omega), Fy3.out.2.2.2.wide (by omega) (by omega)⟩
    exact ((((((((h0.setBelow (a := ⟨w.heap.size + 1 + 1, 6, none⟩) (by simp) _).setBelow (a := ⟨w.heap.size + 1, 0, none⟩) (by simp) _).setBelow (a := ⟨w.heap.size + 1, 1, none⟩) (by simp) _).setBelow (a := ⟨w.heap.size + 1, 2, none⟩) (by simp) _).setBelow (a := ⟨w.heap.size + 1, 3, none⟩) (by simp) _).setBelow (a := ⟨w.heap.size + 1, 4, none⟩) (by simp) _).setBelow (a := ⟨w.heap.size + 1, 5, none⟩) (by simp) _).setBelow (a := ⟨w.heap.size + 1, 6, none⟩) (by simp) _).wide (by omega) (by simp)
  · exact ((((((((hBw3.setCell (p := ⟨w.heap.size + 1 + 1, 6, none⟩) (by simp; omega) _).setCell (p := ⟨w.heap.size + 1, 0, none⟩) (by simp) _).setCell (p := ⟨w.heap.size + 1, 1, none⟩) (by simp) _).setCell (p := ⟨w.heap.size + 1, 2, none⟩) (by simp) _).setCell (p := ⟨w.heap.size + 1, 3, none⟩) (by simp) _).setCell (p := ⟨w.heap.size + 1, 4, none⟩) (by simp) _).setCell (p := ⟨w.heap.size + 1, 5, none⟩) (by simp) _).setCell (p := ⟨w.heap.size + 1, 6, none⟩) (by simp) _)
set_option maxHeartbeats 2000000 in
theorem eqPipe_same (ti : Int) (it : Int) (cl : Bool) (bxo : Option Addr) (bxc : Nat) (bx : List (List (Int × Int × Int))) (emo : Option Addr) (emc : Nat) (em : List (Int × Int × Int)) (fao : Option Addr) (fac : Nat) (fa : List (Int × Int × Int × Int)) (fuo : Option Addr) (fuc : Nat) (fu : List (Int)) (bxo' : Option Addr) (bxc' : Nat) (emo' : Option Addr) (emc' : Nat) (fao' : Option Addr) (fac' : Nat) (fuo' : Option Addr) (fuc' : Nat) (w : World) (hlbx : bx.length ≤ 1048576 ∧ totT bx ≤ 1048576) (hlem : em.length ≤ 1048576) (hlfa : fa.length ≤ 1048576) (hlfu : fu.length ≤ 1048576) (hz : InPipe w.heap.size w bxo bx emo em fao fa fuo fu) (hz' : InPipe w.heap.size w bxo' bx emo' em fao' fa fuo' fu) :
    Calls Tryd.prog 8 #[.agg #[.int .i64 ti, .int .i64 it, .bool cl, .slice bxo bx.length bxc, .slice emo em.length emc, .slice fao fa.length fac, .slice fuo fu.length fuc], .agg #[.int .i64 ti, .int .i64 it, .bool cl, .slice bxo' bx.length bxc', .slice emo' em.length emc', .slice fao' fa.length fac', .slice fuo' fu.length fuc']] w fun e w' => e = .returned (.bool true) ∧ Below w.heap.size w w' := by
  have hti : (ti != ti) = false := by simp
  have hit : (it != it) = false := by simp
  have hcl : (cl != cl) = false := by simp
  have hB0 := below2 w (.cells #[.int .i64 ti, .int .i64 it, .bool cl, .slice bxo bx.length bxc, .slice emo em.length emc, .slice fao fa.length fac, .slice fuo fu.length fuc] 34) (.cells #[.int .i64 ti, .int .i64 it, .bool cl, .slice bxo' bx.length bxc', .slice emo' em.length emc', .slice fao' fa.length fac', .slice fuo' fu.length fuc'] 34)
  have X0 := hid ((Bx.new (w := w) [.int .i64 ti, .int .i64 it, .bool cl, .slice bxo bx.length bxc, .slice emo em.length emc, .slice fao fa.length fac, .slice fuo fu.length fuc] 34 rfl).alloc (.cells #[.int .i64 ti, .int .i64 it, .bool cl, .slice bxo' bx.length bxc', .slice emo' em.length emc', .slice fao' fa.length fac', .slice fuo' fu.length fuc'] 34))
  have Y0 := hid (Bx.new (w := w.alloc (.cells #[.int .i64 ti, .int .i64 it, .bool cl, .slice bxo bx.length bxc, .slice emo em.length emc, .slice fao fa.length fac, .slice fuo fu.length fuc] 34)) (p := w.heap.size + 1) [.int .i64 ti, .int .i64 it, .bool cl, .slice bxo' bx.length bxc', .slice emo' em.length emc', .slice fao' fa.length fac', .slice fuo' fu.length fuc'] 34 (by simp))
  go_enter Tryd.func8, Tryd.ntmps8
  go_wp2_with fail
  refine (eqTT_same bxo bxo' bxc bxc' bx _ hlbx (hz.1.later hB0) (hz'.1.later hB0)).mono ?_
  rintro e w1 ⟨rfl, hb1⟩
  have hB1 := hB0.trans (hb1.mono hB0.size)
  have X1 := hid (X0.out.later hb1)
  have Y1 := hid (Y0.out.later hb1)
  clear hb1 X0 Y0 hB0
  have x0 := X1.out.c 0 rfl
  have y0 := Y1.out.c 0 rfl
  have x1 := X1.out.c 1 rfl
  have y1 := Y1.out.c 1 rfl
  have x2 := X1.out.c 2 rfl
  have y2 := Y1.out.c 2 rfl
  have x3 := X1.out.c 3 rfl
  have y3 := Y1.out.c 3 rfl
  have x4 := X1.out.c 4 rfl
  have y4 := Y1.out.c 4 rfl
  have x5 := X1.out.c 5 rfl
  have y5 := Y1.out.c 5 rfl
  have x6 := X1.out.c 6 rfl
  have y6 := Y1.out.c 6 rfl
  go_wp2_with fail
  refine (eqOutS_same emo emo' emc emc' em _ hlem (hz.2.1.later hB1) (hz'.2.1.later hB1)).mono ?_
  rintro e w2 ⟨rfl, hb2⟩
  have hB2 := hB1.trans (hb2.mono hB1.size)
  have X2 := hid (X1.out.later hb2)
  have Y2 := hid (Y1.out.later hb2)
  clear hb2 X1 Y1 hB1
  clear x0 y0 x1 y1 x2 y2 x3 y3 x4 y4 x5 y5 x6 y6
  have x0 := X2.out.c 0 rfl
  have y0 := Y2.out.c 0 rfl
  have x1 := X2.out.c 1 rfl
  have y1 := Y2.out.c 1 rfl
  have x2 := X2.out.c 2 rfl
  have y2 := Y2.out.c 2 rfl
  have x3 := X2.out.c 3 rfl
  have y3 := Y2.out.c 3 rfl
  have x4 := X2.out.c 4 rfl
  have y4 := Y2.out.c 4 rfl
  have x5 := X2.out.c 5 rfl
  have y5 := Y2.out.c 5 rfl
  have x6 := X2.out.c 6 rfl
  have y6 := Y2.out.c 6 rfl
  go_wp2_with fail
  refine (eqLostS_same fao fao' fac fac' fa _ hlfa (hz.2.2.1.later hB2) (hz'.2.2.1.later hB2)).mono ?_
  rintro e w3 ⟨rfl, hb3⟩
  have hB3 := hB2.trans (hb3.mono hB2.size)
  have X3 := hid (X2.out.later hb3)
  have Y3 := hid (Y2.out.later hb3)
  clear hb3 X2 Y2 hB2
  clear x0 y0 x1 y1 x2 y2 x3 y3 x4 y4 x5 y5 x6 y6
  have x0 := X3.out.c 0 rfl
  have y0 := Y3.out.c 0 rfl
  have x1 := X3.out.c 1 rfl
  have y1 := Y3.out.c 1 rfl
  have x2 := X3.out.c 2 rfl
  have y2 := Y3.out.c 2 rfl
  have x3 := X3.out.c 3 rfl
  have y3 := Y3.out.c 3 rfl
  have x4 := X3.out.c 4 rfl
  have y4 := Y3.out.c 4 rfl
  have x5 := X3.out.c 5 rfl
  have y5 := Y3.out.c 5 rfl
  have x6 := X3.out.c 6 rfl
  have y6 := Y3.out.c 6 rfl
  go_wp2_with fail
  refine (eqIntS_same fuo fuo' fuc fuc' fu _ hlfu (hz.2.2.2.later hB3) (hz'.2.2.2.later hB3)).mono ?_
  rintro e w4 ⟨rfl, hb4⟩
  have hB4 := hB3.trans (hb4.mono hB3.size)
  have X4 := hid (X3.out.later hb4)
  have Y4 := hid (Y3.out.later hb4)
  clear hb4 X3 Y3 hB3
  clear x0 y0 x1 y1 x2 y2 x3 y3 x4 y4 x5 y5 x6 y6
  have x0 := X4.out.c 0 rfl
  have y0 := Y4.out.c 0 rfl
  have x1 := X4.out.c 1 rfl
  have y1 := Y4.out.c 1 rfl
  have x2 := X4.out.c 2 rfl
  have y2 := Y4.out.c 2 rfl
  have x3 := X4.out.c 3 rfl
  have y3 := Y4.out.c 3 rfl
  have x4 := X4.out.c 4 rfl
  have y4 := Y4.out.c 4 rfl
  have x5 := X4.out.c 5 rfl
  have y5 := Y4.out.c 5 rfl
  have x6 := X4.out.c 6 rfl
  have y6 := Y4.out.c 6 rfl
  go_wp2
  go_ret
  exact ⟨rfl, hB4⟩
end Go.Proofs.YtjdcaommbibkaaaDoor
