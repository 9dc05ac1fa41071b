
/- Copies: the program's and the specification's own. No conditions but those written. -/
import Derived.Test.YtdfmmidokfcjfaaODb
import Derived.Deep.RegionHeld3
namespace Go.Proofs.Ytdfmmidokfcjfaa.Old
open Go.RowKit

theorem Try.size3 : (Try.prog.info? 3).map (·.size) = some 1 := by kernel_rfl
theorem wpList_app_none {ops : Array Oper} {rest : List Oper} {o : Oper} {a : Act} {Q : Exit → Act → World → Prop} (W : World) (hg : o.guard = none) (s x : Operand) (hop : o.op = Op.call { callee := Callee.builtin Builtin.append, args := #[s, x], argTypes := #[24, 24] })
    (lo : Nat) (v : Value) (xs : List T3) (hs : a.eval s = v) (hown : OwnV lo W v xs) (hx : a.eval x = .slice none 0 0) (hK : wpList Try.prog ops Q rest (a.put o.dst v) W) :
    wpList Try.prog ops Q (o :: rest) a W := by
  obtain ⟨i0, hin, hz0, hz1, hz2⟩ := info_parts Try.info28
  refine wpList_plain hg fun K hK' => ?_
  have hrun := run_append_owned_none (P := Try.prog) W lo 24 o.type 28 i0 3 Try.underlying24 hin v xs.length (tcells xs) hown
  unfold Oper.wp
  simp [execOp, hop, resolve, invoke, builtin, hs, hx, hrun, Result.andThen]
  exact hK' _ _ hK

theorem wpList_appWo {ops : Array Oper} {rest : List Oper} {o : Oper} {a : Act} {Q : Exit → Act → World → Prop} (W : World) (hg : o.guard = none) (s x : Operand) (hop : o.op = Op.call { callee := Callee.builtin Builtin.append, args := #[s, x], argTypes := #[24, 24] })
    (lo : Nat) (v : Value) (xs : List T3) (hs : a.eval s = v) (hown : OwnV lo W v xs) (hlo : lo ≤ W.heap.size)
    (ao : Option Addr) (ys : List T3) (m c : Nat) (hx : a.eval x = .slice ao m c) (hm : ys.length = m) (hno : ao = none → c = 0) (n : Nat) (hz : TimersIn n W ao ys) (hl : xs.length + ys.length ≤ 4194304)
    (hK : ∀ v' w', OwnV lo w' v' (xs ++ ys) → Below lo W w' → (v ≠ .slice none 0 0 → v' ≠ .slice none 0 0) → wpList Try.prog ops Q rest (a.put o.dst v') w') :
    wpList Try.prog ops Q (o :: rest) a W := by
  cases ao with
  | none =>
    have hy : ys = [] := by rcases hz with h | ⟨b, off, e, _⟩; exact h; cases e
    subst hy
    have hc := hno rfl
    subst hc hm
    refine wpList_app_none W hg s x hop lo v xs hs hown hx ?_
    exact hK v W (by simpa using hown) (Below.refl _ _) id
  | some ad =>
    refine wpList_appW W hg s x hop lo v xs hs hown hlo ad ys m c hx hm n hz hl ?_
    intro v' w' h1 h2 h3 h4
    exact hK v' w' h1 h2 fun hv e => hv (h4.1 e).1

theorem ints_src {w w1 : World} {b off n : Nat} {zs : List Int} (hB : Below n w w1) (hb : b < n) (hc : ∀ j, j < zs.length → w.cell? ⟨b, off + j, none⟩ = some (.int .i64 (zs[j]?.getD 0))) :
    ∀ j v, (zs.map (Value.int .i64))[j]? = some v → w1.cell? ((⟨b, off, none⟩ : Addr).add j) = some v := by
  intro j v h
  have hj : j < zs.length := by
    have := (List.getElem?_eq_some_iff.1 h).1; simpa using this
  have e : v = .int .i64 (zs[j]?.getD 0) := by simp [hj] at h ⊢; exact h.symm
  have ea : (⟨b, off, none⟩ : Addr).add j = ⟨b, off + j, none⟩ := by simp [Addr.add]
  rw [ea, e, ← hc j hj]
  exact hB.cell (p := ⟨b, off + j, none⟩) hb
theorem ints_one (zs : List Int) : ∀ u ∈ zs.map (Value.int .i64), u.oneCell' = true := by
  intro u hu; obtain ⟨z, _, rfl⟩ := List.mem_map.1 hu; rfl

theorem wpList_appIo {ops : Array Oper} {rest : List Oper} {o : Oper} {a : Act} {Q : Exit → Act → World → Prop} (W : World) (hg : o.guard = none) (s x : Operand) (hop : o.op = Op.call { callee := Callee.builtin Builtin.append, args := #[s, x], argTypes := #[23, 23] })
    (lo : Nat) (v : Value) (xs : List Int) (hs : a.eval s = v) (hown : OwnZ lo W v xs) (hlo : lo ≤ W.heap.size)
    (ao : Option Addr) (ys : List Int) (m c : Nat) (hx : a.eval x = .slice ao m c) (hm : ys.length = m) (hno : ao = none → c = 0) (n : Nat) (hz : IntsIn n W ao ys) (hl : xs.length + ys.length ≤ 4194304)
    (hK : ∀ v' w', OwnZ lo w' v' (xs ++ ys) → Below lo W w' → (v ≠ .slice none 0 0 → v' ≠ .slice none 0 0) → wpList Try.prog ops Q rest (a.put o.dst v') w') :
    wpList Try.prog ops Q (o :: rest) a W := by
  obtain ⟨i0, hin, hz0, hz1, hz2⟩ := info_parts Try.info3
  cases ao with
  | none =>
    have hy : ys = [] := by rcases hz with h | ⟨b, off, e, _⟩; exact h; cases e
    subst hy
    have hc := hno rfl
    subst hc hm
    have hrun := run_append_owned_none (P := Try.prog) W lo 23 o.type 3 i0 1 Try.underlying23 hin v xs.length (xs.map (Value.int .i64)) hown
    refine wpList_plain hg fun K hK' => ?_
    unfold Oper.wp
    simp [execOp, hop, resolve, invoke, builtin, hs, hx, hrun, Result.andThen]
    exact hK' _ _ (hK v W (by simpa using hown) (Below.refl _ _) id)
  | some ad =>
    subst hm
    have hsrc : ∀ j u, (ys.map (Value.int .i64))[j]? = some u → W.cell? (ad.add j) = some u := by
      rcases hz with rfl | ⟨b, off, e, hb, hc⟩
      · intro j u h; simp at h
      · cases e; exact ints_src (Below.refl _ _) hb hc
    refine wpList_append_own W hg s x 23 hop lo 3 i0 (.int .i64 0) 1 8 Try.underlying23 hin hz0 hz1 hz2 rfl (by decide) v xs.length (xs.map (Value.int .i64)) hs hown ad ys.length c (ys.map (Value.int .i64)) hx (by simp) hsrc (ints_one ys) (by unfold maxLen; omega) (by omega) hlo ?_
    intro v' w' ho hgr hnil
    refine hK v' w' ?_ (hown.belowG hgr hlo) fun hv e => hv (hnil.1 e).1
    unfold OwnZ
    rw [List.map_append, List.length_append]; exact ho

set_option maxHeartbeats 1000000 in
theorem copyListW_any (ao : Option Addr) (cap : Nat) (ts : List T3) (w : World) (hl : ts.length ≤ 1048576) (hz : TimersIn w.heap.size w ao ts) :
    Calls Try.prog 37 #[.slice ao ts.length cap] w fun e w' => (∃ to, e = .returned (.slice to ts.length ts.length) ∧ FreshC w.heap.size w'.heap.size w' to ts.length ts) ∧ Below w.heap.size w w' := by
  by_cases h0 : ts.length = 0
  · obtain rfl : ts = [] := List.length_eq_zero_iff.1 h0
    go_enter Try.func37, Try.ntmps37
    go_wp2
    go_ret
    exact ⟨⟨none, rfl, .inl ⟨rfl, rfl⟩⟩, Below.refl _ _⟩
  · have h0' : ((ts.length : Int) == 0) = false := by simp; intro h; apply h0; simp [h]
    obtain ⟨b, off, rfl, hb, hc⟩ := hz.pos (k := 0) (by omega)
    obtain ⟨i0, hi, hz0, hz1, hz2⟩ := info_parts Try.info28
    go_enter Try.func37, Try.ntmps37
    go_wp2_with (at_make; refine wpList_make_full _ rfl _ _ 24 rfl w.heap.size 28 i0 (.agg #[.int .i64 0, .int .i64 0, .int .i64 0]) 3 Try.underlying24 hi hz0 hz1 .i64 .i64 _ _ ts.length rfl rfl rfl rfl (by rw [hz2]; omega) (by unfold maxLen; omega) (Nat.le_refl _) ?_; intro w1 hown hgrow; obtain ⟨cur, hcur, hcl, _⟩ := owns_open hown; have hB1 : Below w.heap.size w w1 := (Below.refl _ _).grown hgrow (Nat.le_refl _) (fun k e => by cases e); have hrun := run_copy_rows (P := Try.prog) w1 24 24 3 28 w.heap.size ts.length ts.length ⟨b, off, none⟩ ts.length cap cur.toArray 28 (tcells ts) 3 ts.length Try.underlying24 Try.size28 hcur (by simp) (tcells_len ts) (tcells_src hB1 hb hc) (by simp [tcells_len, hcl]) (tcells_one ts); have HC := show Hid (w1.heap[w.heap.size]? = some (.cells cur.toArray 28 (0, 0))) from hcur; clear hown hgrow hcur)
    go_ret
    have hlt : w.heap.size < w1.heap.size := (Array.getElem?_eq_some_iff.1 HC.out).1
    exact ⟨⟨_, rfl, (freshC_row HC.out (Nat.le_refl _) (by omega)).wide (Nat.le_refl _) (by simp [World.setRow]; omega)⟩, below_setRow hB1 (Nat.le_refl _) _⟩
theorem copy_row {w1 : World} {g n cap : Nat} {ad : Addr} {cur : List Value} {zs : List Int} (hcur : w1.heap[g]? = some (.cells cur.toArray 3 (0, 0))) (hcl : cur.length = zs.length) (hsrc : ∀ j v, (zs.map (Value.int .i64))[j]? = some v → w1.cell? (ad.add j) = some v) :
    (Builtin.copy_ #[23, 23] 3 #[.slice (some ⟨g, 0, none⟩) zs.length n, .slice (some ad) zs.length cap]).run Try.prog w1 = .ok (goInt zs.length) (w1.setRow g (zs.map (Value.int .i64)).toArray) := by
  have h := run_copy_row (P := Try.prog) w1 23 23 3 3 g 0 zs.length n ad zs.length cap cur.toArray 3 (zs.map (Value.int .i64)) Try.underlying23 Try.size3 hcur (by simp) hsrc (by simp [hcl]) (by intro v hv; obtain ⟨z, _, rfl⟩ := List.mem_map.1 hv; rfl)
  rw [h]
  have e : cur.drop zs.length = [] := List.drop_eq_nil_of_le (by omega)
  simp [e]
theorem own_of_row {w : World} {g base : Nat} {zs : List Int} {cur : List Value} (hg : w.heap[g]? = some (.cells cur.toArray 3 (0, 0))) (hb : base ≤ g) (hl : zs.length ≤ 1048576) : (w.setRow g (zs.map (Value.int .i64)).toArray).ownsRow base 3 1 (.slice (some ⟨g, 0, none⟩) zs.length zs.length) zs.length (zs.map (Value.int .i64)) := by
  refine ⟨by simp, .inr ⟨g, zs.length, (zs.map (Value.int .i64)).toArray, rfl, hb, ?_, Nat.le_refl _, by unfold maxLen; omega, by simp, by simp [List.take_of_length_le]⟩⟩
  exact setRow_heap w g _ _ 3 _ hg
set_option maxHeartbeats 1000000 in
theorem copyListI_any (ao : Option Addr) (cap : Nat) (zs : List Int) (w : World) (hl : zs.length ≤ 1048576) (hz : IntsIn w.heap.size w ao zs) :
    Calls Try.prog 36 #[.slice ao zs.length cap] w fun e w' => (∃ go, e = .returned (.slice go zs.length zs.length) ∧ FreshI w.heap.size w'.heap.size w' go zs.length zs) ∧ Below w.heap.size w w' := by
  by_cases h0 : zs.length = 0
  · obtain rfl : zs = [] := List.length_eq_zero_iff.1 h0
    go_enter Try.func36, Try.ntmps36
    go_wp2
    go_ret
    exact ⟨⟨none, rfl, .inl ⟨rfl, rfl⟩⟩, Below.refl _ _⟩
  · have h0' : ((zs.length : Int) == 0) = false := by simp; intro h; apply h0; simp [h]
    obtain ⟨b, off, rfl, hb, hc⟩ := hz.pos (k := 0) (by omega)
    obtain ⟨i0, hi, hz0, hz1, hz2⟩ := info_parts Try.info3
    go_enter Try.func36, Try.ntmps36
    go_wp2_with (at_make; refine wpList_make_full _ rfl _ _ 23 rfl w.heap.size 3 i0 (.int .i64 0) 1 Try.underlying23 hi hz0 hz1 .i64 .i64 _ _ zs.length rfl rfl rfl rfl (by rw [hz2]; omega) (by unfold maxLen; omega) (Nat.le_refl _) ?_; intro w1 hown hgrow; obtain ⟨cur, hcur, hcl, _⟩ := owns_open hown; have hB1 : Below w.heap.size w w1 := (Below.refl _ _).grown hgrow (Nat.le_refl _) (fun k e => by cases e); have hrun := copy_row (n := zs.length) (cap := cap) hcur (by omega) (ints_src hB1 hb hc); have HC := show Hid (w1.heap[w.heap.size]? = some (.cells cur.toArray 3 (0, 0))) from hcur; clear hown hgrow hcur)
    go_ret
    exact ⟨⟨_, rfl, .inr ⟨w.heap.size, rfl, by simp [World.setRow]; exact (Array.getElem?_eq_some_iff.1 HC.out).1, own_of_row HC.out (Nat.le_refl _) hl⟩⟩, below_setRow hB1 (Nat.le_refl _) _⟩

theorem Box5.drew {W : World} {p : Nat} {u0 u1 u2 u3 u4 : Value} (h : Box5 W p u0 u1 u2 u3 u4) : Box5 W.drew p u0 u1 u2 u3 u4 := h
theorem BoxF5.drew {W : World} {p : Nat} {u0 u1 u2 u3 u4 : Value} (h : BoxF5 W p u0 u1 u2 u3 u4) : BoxF5 W.drew p u0 u1 u2 u3 u4 := h
/-- A channel in its own memory, as an ending. -/
def AnsCh (w : World) (kap : Int) (cl : Bool) (b : List Int) (s r : List T3) (e : Ending) (w' : World) : Prop :=
  (∃ bo bc so sc ro rc, e = .returned (.agg #[.int .i64 kap, .bool cl, .slice bo b.length bc, .slice so s.length sc, .slice ro r.length rc]) ∧ FreshCh w.heap.size w'.heap.size w' bo bc b so sc s ro rc r) ∧ Below w.heap.size w w'

set_option maxRecDepth 10000 in
set_option maxHeartbeats 8000000 in
theorem copyChan_any (kap : Int) (cl : Bool) (bo : Option Addr) (bc : Nat) (b : List Int) (so : Option Addr) (sc : Nat) (s : List T3) (ro : Option Addr) (rc : Nat) (r : List T3) (w : World) (hl : b.length ≤ 1048576) (hls : s.length ≤ 1048576) (hlr : r.length ≤ 1048576) (hz : ChanIn w.heap.size w bo b so s ro r) :
    Calls Try.prog 13 #[.agg #[.int .i64 kap, .bool cl, .slice bo b.length bc, .slice so s.length sc, .slice ro r.length rc]] w fun e w' => AnsCh w kap cl b s r e w' := by
  obtain ⟨W2, hW2⟩ : ∃ W2, W2 = (w.alloc (.cells #[.int .i64 kap, .bool cl, .slice bo b.length bc, .slice so s.length sc, .slice ro r.length rc] 26)).alloc (.cells #[.int .i64 0, .bool false, .slice none 0 0, .slice none 0 0, .slice none 0 0] 26) := ⟨_, rfl⟩
  have hB2 : Below w.heap.size w W2 := by rw [hW2]; exact below2 _ _ _
  have A2 : BoxF5 W2 w.heap.size (.int .i64 kap) (.bool cl) (.slice bo b.length bc) (.slice so s.length sc) (.slice ro r.length rc) := by rw [hW2]; exact (BoxF5.new w _ _ _ _ _ _).later (below1 _ _)
  have R2 : BoxF5 W2 (w.heap.size + 1) (.int .i64 0) (.bool false) (.slice none 0 0) (.slice none 0 0) (.slice none 0 0) := by
    have h := BoxF5.new (w.alloc (.cells #[.int .i64 kap, .bool cl, .slice bo b.length bc, .slice so s.length sc, .slice ro r.length rc] 26)) (.int .i64 0) (.bool false) (.slice none 0 0) (.slice none 0 0) (.slice none 0 0) 26
    rw [hW2]; simpa using h
  have HW : Hid (W2 = (w.alloc (.cells #[.int .i64 kap, .bool cl, .slice bo b.length bc, .slice so s.length sc, .slice ro r.length rc] 26)).alloc (.cells #[.int .i64 0, .bool false, .slice none 0 0, .slice none 0 0, .slice none 0 0] 26)) := hW2
  have HS : Hid (W2.heap.size = w.heap.size + 1 + 1) := by rw [hW2]; simp [Hid]
  have hsl : w.heap.size < W2.heap.size := by rw [HS.out]; omega
  clear hW2
  obtain ⟨⟨_, a0, a1, a2, a3, a4⟩, _⟩ := id A2
  go_enter Try.func13, Try.ntmps13
  go_wp2
  rw [← HW.out]
  go_region_held3 (fun Y => Y.cell? ⟨w.heap.size, 0, none⟩ = some (.int .i64 kap) ∧ Y.cell? ⟨w.heap.size, 1, none⟩ = some (.bool cl) ∧ Y.cell? ⟨w.heap.size, 2, none⟩ = some (.slice bo b.length bc) ∧ Y.cell? ⟨w.heap.size, 3, none⟩ = some (.slice so s.length sc) ∧ Y.cell? ⟨w.heap.size, 4, none⟩ = some (.slice ro r.length rc))
    (first | ((refine ⟨?_, ?_, ?_, ?_, ?_⟩ <;> (rw [World.cell?_setCell_other _ _ _ _ (by simp), World.cell?_setCell_other _ _ _ _ (by simp), World.cell?_setCell_other _ _ _ _ (by simp), World.cell?_setCell_other _ _ _ _ (by simp), World.cell?_setCell_other _ _ _ _ (by simp)])); exact P3.1; exact P3.2.1; exact P3.2.2.1; exact P3.2.2.2.1; exact P3.2.2.2.2) | exact ⟨a0, a1, a2, a3, a4⟩ | exact P1 | exact P2 | exact P3)
    (first
      | (go_at_call 36; refine (copyListI_any bo bc b _ hl (by exact hz.1.later hB2.drew)).mono ?_; rintro e w1 ⟨⟨go1, rfl, hF1⟩, hb1⟩; have hB3 : Below w.heap.size w w1 := hB2.drew.trans (hb1.mono hB2.size); have A3 := A2.drew.later hb1; have R3 := R2.drew.later hb1; have P1 := (⟨A3.1.2.1, A3.1.2.2.1, A3.1.2.2.2.1, A3.1.2.2.2.2.1, A3.1.2.2.2.2.2⟩ : w1.cell? ⟨w.heap.size, 0, none⟩ = some (.int .i64 kap) ∧ w1.cell? ⟨w.heap.size, 1, none⟩ = some (.bool cl) ∧ w1.cell? ⟨w.heap.size, 2, none⟩ = some (.slice bo b.length bc) ∧ w1.cell? ⟨w.heap.size, 3, none⟩ = some (.slice so s.length sc) ∧ w1.cell? ⟨w.heap.size, 4, none⟩ = some (.slice ro r.length rc)); have F3 : Hid (FreshI W2.heap.size w1.heap.size w1 go1 b.length b ∧ W2.heap.size ≤ w1.heap.size) := ⟨hF1, hb1.size⟩; clear hF1 hb1)
      | (go_at_call 37; refine (copyListW_any ro rc r w2 hlr (by exact hz.2.2.later hB4)).mono ?_; rintro e w3 ⟨⟨go3, rfl, hF3⟩, hb3⟩; have hB5 : Below w.heap.size w w3 := hB4.trans (hb3.mono hB4.size); have A5 := A4.later hb3; have R5 := R4.later hb3; have P3 := (⟨A5.1.2.1, A5.1.2.2.1, A5.1.2.2.2.1, A5.1.2.2.2.2.1, A5.1.2.2.2.2.2⟩ : w3.cell? ⟨w.heap.size, 0, none⟩ = some (.int .i64 kap) ∧ w3.cell? ⟨w.heap.size, 1, none⟩ = some (.bool cl) ∧ w3.cell? ⟨w.heap.size, 2, none⟩ = some (.slice bo b.length bc) ∧ w3.cell? ⟨w.heap.size, 3, none⟩ = some (.slice so s.length sc) ∧ w3.cell? ⟨w.heap.size, 4, none⟩ = some (.slice ro r.length rc)); obtain ⟨⟨_, r0, r1, r2, r3, r4⟩, f0, f1, f2, f3, f4⟩ := id R5; have F5 : Hid (FreshI W2.heap.size w1.heap.size w3 go1 b.length b ∧ FreshC w1.heap.size w2.heap.size w3 go2 s.length s ∧ FreshC w2.heap.size w3.heap.size w3 go3 r.length r ∧ w2.heap.size ≤ w3.heap.size) := ⟨F4.out.1.later hb3, F4.out.2.1.later hb3, hF3, hb3.size⟩; clear hF3 hb3)
      | (go_at_call 37; refine (copyListW_any so sc s w1 hls (by exact hz.2.1.later hB3)).mono ?_; rintro e w2 ⟨⟨go2, rfl, hF2⟩, hb2⟩; have hB4 : Below w.heap.size w w2 := hB3.trans (hb2.mono hB3.size); have A4 := A3.later hb2; have R4 := R3.later hb2; have P2 := (⟨A4.1.2.1, A4.1.2.2.1, A4.1.2.2.2.1, A4.1.2.2.2.2.1, A4.1.2.2.2.2.2⟩ : w2.cell? ⟨w.heap.size, 0, none⟩ = some (.int .i64 kap) ∧ w2.cell? ⟨w.heap.size, 1, none⟩ = some (.bool cl) ∧ w2.cell? ⟨w.heap.size, 2, none⟩ = some (.slice bo b.length bc) ∧ w2.cell? ⟨w.heap.size, 3, none⟩ = some (.slice so s.length sc) ∧ w2.cell? ⟨w.heap.size, 4, none⟩ = some (.slice ro r.length rc)); have F4 : Hid (FreshI W2.heap.size w1.heap.size w2 go1 b.length b ∧ FreshC w1.heap.size w2.heap.size w2 go2 s.length s ∧ w1.heap.size ≤ w2.heap.size) := ⟨F3.out.1.later hb2, hF2, hb2.size⟩; clear hF2 hb2))
  all_goals
    go_wp2
    refine bodyPost_ret (v := .agg #[.int .i64 kap, .bool cl, .slice go1 b.length b.length, .slice go2 s.length s.length, .slice go3 r.length r.length]) (by simp [results, Try.results13, go_sem, r0, r1, r2, r3, r4]) rfl ⟨⟨go1, _, go2, _, go3, _, rfl, ?_⟩, ?_⟩
    · have q0 := HS.out
      have q1 := F3.out.2
      have q2 := F4.out.2.2
      have q3 := F5.out.2.2.2
      have h0 : FreshCh (w.heap.size + 1 + 1) w3.heap.size w3 go1 b.length b go2 s.length s go3 r.length r := ⟨F5.out.1.wide (by omega) (by omega), F5.out.2.1.wide (by omega) (by omega), F5.out.2.2.1.wide (by omega) (Nat.le_refl _), apart_of F5.out.2.1 F5.out.2.2.1 (Nat.le_refl _)⟩
      exact (((((h0.setBelow (a := ⟨w.heap.size + 1, 0, none⟩) (by simp) _).setBelow (a := ⟨w.heap.size + 1, 1, none⟩) (by simp) _).setBelow (a := ⟨w.heap.size + 1, 2, none⟩) (by simp) _).setBelow (a := ⟨w.heap.size + 1, 3, none⟩) (by simp) _).setBelow (a := ⟨w.heap.size + 1, 4, none⟩) (by simp) _).wide (by omega) (by simp)
    · exact ((((hB5.setCell (p := ⟨w.heap.size + 1, 0, none⟩) (by simp) _).setCell (p := ⟨w.heap.size + 1, 1, none⟩) (by simp) _).setCell (p := ⟨w.heap.size + 1, 2, none⟩) (by simp) _).setCell (p := ⟨w.heap.size + 1, 3, none⟩) (by simp) _).setCell (p := ⟨w.heap.size + 1, 4, none⟩) (by simp) _
end Go.Proofs.Ytdfmmidokfcjfaa.Old
