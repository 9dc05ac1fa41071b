/- Hubs: sizes, copies, comparisons; channels that are good. No conditions but those written. Putting behind a row: where the row lies then. No conditions but those written. -/
import Derived.Test.YtdjdbcfcccbhpaaKh
import Derived.Test.YtdjdbcfcccbhpaaOBb
import Derived.Test.YtdjdbcfcccbhpaaPKwBx
namespace Go.Proofs.Ytdjdbcfcccbhpaa
section
open Go.RowKit

theorem t3_el (ts : List (Int × Int × Int)) (j : Nat) : Old.t3 ts j = el ts j := rfl
theorem timers_of {n : Nat} {W : World} {ao : Option Addr} {ts : List (Int × Int × Int)} (h : kW.In n W ao ts) : Old.TimersIn n W ao ts := by
  rcases h with h | ⟨b, off, e, hb, hc⟩
  · exact .inl h
  · refine .inr ⟨b, off, e, hb, fun j hj => ?_⟩
    rw [t3_el]
    exact ⟨hc j hj 0 (by decide), hc j hj 1 (by decide), hc j hj 2 (by decide)⟩
/-- A channel is good. -/
def goodP (c : PChan) : Bool := Old.goodC c.1 c.2.1 c.2.2.1 c.2.2.2.1 c.2.2.2.2
theorem implGoodC_is (kap : Int) (cl : Bool) (bo : Option Addr) (bc : Nat) (b : List Int) (so : Option Addr) (sc : Nat) (s : List (Int × Int × Int)) (ro : Option Addr) (rc : Nat) (r : List (Int × Int × Int)) (w : World) (x : Bool) (hlb : b.length ≤ 1048576) (hls : s.length ≤ 1048576) (hlr : r.length ≤ 1048576) (hz : InChan w.heap.size w bo b so s ro r) (hx : goodP (kap, cl, b, s, r) = x) :
    Calls Try.prog 39 #[.agg #[.int .i64 kap, .bool cl, .slice bo b.length bc, .slice so s.length sc, .slice ro r.length rc]] w fun e w' => e = .returned (.bool x) ∧ Below w.heap.size w w' :=
  Old.implGood_is kap cl bo bc b so sc s ro rc r w x (by omega) (by omega) (by omega) (timers_of hz.2.1) (timers_of hz.2.2) hx
theorem specGoodC_is (kap : Int) (cl : Bool) (bo : Option Addr) (bc : Nat) (b : List Int) (so : Option Addr) (sc : Nat) (s : List (Int × Int × Int)) (ro : Option Addr) (rc : Nat) (r : List (Int × Int × Int)) (w : World) (x : Bool) (hlb : b.length ≤ 1048576) (hls : s.length ≤ 1048576) (hlr : r.length ≤ 1048576) (hz : InChan w.heap.size w bo b so s ro r) (hx : goodP (kap, cl, b, s, r) = x) :
    Calls Try.prog 33 #[.agg #[.int .i64 kap, .bool cl, .slice bo b.length bc, .slice so s.length sc, .slice ro r.length rc]] w fun e w' => e = .returned (.bool x) ∧ Below w.heap.size w w' :=
  Old.specGood_is kap cl bo bc b so sc s ro rc r w x (by omega) (by omega) (by omega) (timers_of hz.2.1) (timers_of hz.2.2) hx
/-- Rows that are not too long. -/
def Fits (ts : List LChan) : Prop := ∀ a ∈ ts, (a.2.2.1).2.2.length ≤ 1048576 ∧ (a.2.2.2.1).2.2.length ≤ 1048576 ∧ (a.2.2.2.2).2.2.length ≤ 1048576
theorem fits_of {ts : List LChan} (h : totChan ts ≤ 1048576) : Fits ts := by
  intro a ha
  obtain ⟨j, hj, rfl⟩ := mem_el ha
  have := totChan_el hj
  unfold sizeChan at this
  omega
theorem fits_val {ts us : List LChan} (h : Fits ts) (hv : us.map valChan = ts.map valChan) : Fits us := by
  intro a ha
  obtain ⟨j, hj, rfl⟩ := mem_el ha
  have hl : us.length = ts.length := by have := congrArg List.length hv; simpa using this
  have hvk : valChan (el us j) = valChan (el ts j) := by
    have := congrArg (fun l => el l j) hv
    simpa [el, hj, show j < ts.length from by omega] using this
  have h1 := h _ (el_mem (show j < ts.length from by omega))
  simp only [valChan, Prod.mk.injEq] at hvk
  obtain ⟨_, _, e1, e2, e3⟩ := hvk
  rw [e1, e2, e3]; exact h1
set_option maxHeartbeats 2000000 in
theorem szHub_any (ao : Option Addr) (cap : Nat) (ts : List LChan) (w : World) (hl : ts.length ≤ 9223372036854775807) (hle : ∀ a ∈ ts, (a.2.2.1).2.2.length ≤ 9223372036854775807 ∧ (a.2.2.2.1).2.2.length ≤ 9223372036854775807 ∧ (a.2.2.2.2).2.2.length ≤ 9223372036854775807) (hz : DIn dChan w.heap.size w ao ts) :
    Calls Try.prog 4 #[.agg #[.slice ao ts.length cap], .int .i64 1048576] w fun e w' => (∃ z : Int, e = .returned (.int .i64 z) ∧ ((z < 0) ∨ (0 ≤ z ∧ ts.length ≤ 1048576 ∧ totChan ts ≤ 1048576))) ∧ Below w.heap.size w w' := by
  have hB0 := below1 w (.cells #[.slice ao ts.length cap] 24)
  have HZ := hid (hz.later dChan_ok hB0)
  clear hz
  go_enter Try.func4, Try.ntmps4
  go_wp2_with fail
  refine (szChanS_any ao cap ts 1048576 _ (by omega) (by omega) hl hle HZ.out.1).mono ?_
  rintro e w1 ⟨⟨z, rfl, hr, hs⟩, hb1⟩
  have hB1 := hB0.trans (hb1.mono hB0.size)
  clear hb1
  by_cases h0 : z < 0
  · go_wp2
    go_ret
    exact ⟨⟨_, rfl, by omega⟩, hB1⟩
  · go_wp2
    go_ret
    exact ⟨⟨_, rfl, by omega⟩, hB1⟩
set_option maxHeartbeats 2000000 in
theorem toHub_any (ao : Option Addr) (cap : Nat) (ts : List LChan) (w : World) (hl : ts.length ≤ 1048576) (hf : Fits ts) (hz : DIn dChan w.heap.size w ao ts) :
    Calls Try.prog 6 #[.agg #[.slice ao ts.length cap]] w fun e w' => ∃ g us, e = .returned (.agg #[.slice (some ⟨g, 0, none⟩) ts.length ts.length]) ∧ us.map valChan = ts.map valChan ∧ DFr dChan w.heap.size w'.heap.size w' (some ⟨g, 0, none⟩) ts.length us ∧ Below w.heap.size w w' := by
  obtain ⟨w0, hw0⟩ : ∃ w0, w0 = ((w.alloc (.cells #[.slice ao ts.length cap] 24)).alloc (.cells #[.slice none 0 0] 28)).alloc (.cells #[.slice none 0 0] 28) := ⟨_, rfl⟩
  have hB0 : Below w.heap.size w w0 := by rw [hw0]; exact below3 _ _ _ _
  have XR0 : Hid (Bx w0 (w.heap.size + 1) [.slice none 0 0]) := by rw [hw0]; exact Bx.alloc (Bx.new [.slice none 0 0] _ (by simp)) _
  have XO0 : Hid (Bx w0 (w.heap.size + 1 + 1) [.slice none 0 0]) := by rw [hw0]; exact Bx.new [.slice none 0 0] _ (by simp)
  have hs0 : w0.heap.size = w.heap.size + 1 + 1 + 1 := by rw [hw0]; simp
  have HS0 := hid hs0
  have H0 := hid hw0
  clear hw0 hs0
  go_enter Try.func6, Try.ntmps6
  go_wp2_with fail
  rw [← H0.out]
  refine (toChanS_any ao cap ts w0 hl hf (hz.later dChan_ok hB0)).mono ?_
  rintro e w1 ⟨rfl, ⟨us, hv, hF⟩, hb1⟩
  have hB1 := hB0.trans (hb1.mono hB0.size)
  obtain ⟨g, hg⟩ : ∃ g, g = w0.heap.size := ⟨_, rfl⟩
  rw [← hg] at hF ⊢
  have HF := hid hF
  have HV := hid hv
  have hgg : w.heap.size + 1 + 1 + 1 = g := by rw [hg]; exact HS0.out.symm
  have XR1 := hid (XR0.out.later hb1)
  have XO1 := hid (XO0.out.later hb1)
  clear hF hv hb1 hg XR0 XO0 H0 hB0
  have r0 := XR1.out.c 0 rfl
  have rf0 := XR1.out.f 0 rfl
  have o0 := XO1.out.c 0 rfl
  have of0 := XO1.out.f 0 rfl
  have HGG := hid hgg
  clear hgg
  go_wp2
  refine bodyPost_ret (v := .agg #[.slice (some ⟨g, 0, none⟩) ts.length ts.length]) (by simp [results, Try.results6, go_sem, r0]) rfl ⟨g, us, rfl, HV.out, ?_, ?_⟩
  · have := HGG.out
    exact ((HF.out.keep (lo := g) dChan_ok (fun k h1 h2 h3 => by rw [Below.heap_setCell _ _ _ _ (by dsimp only; omega), Below.heap_setCell _ _ _ _ (by dsimp only; omega)])).wide dChan_ok (by omega) (by simp))
  · exact (hB1.setCell (p := ⟨w.heap.size + 1 + 1, 0, none⟩) (by dsimp only; omega) _).setCell (p := ⟨w.heap.size + 1, 0, none⟩) (by dsimp only; omega) _
set_option maxHeartbeats 2000000 in
theorem eqHub_same (ao bo : Option Addr) (cap cap' : Nat) (ts us : List LChan) (w : World) (hl : ts.length ≤ 1048576) (hf : Fits ts) (hv : ts.map valChan = us.map valChan) (hz : DIn dChan w.heap.size w ao ts) (hz' : DIn dChan w.heap.size w bo us) :
    Calls Try.prog 8 #[.agg #[.slice ao ts.length cap], .agg #[.slice bo us.length cap']] w fun e w' => e = .returned (.bool true) ∧ Below w.heap.size w w' := by
  have hB0 := below2 w (.cells #[.slice ao ts.length cap] 28) (.cells #[.slice bo us.length cap'] 28)
  go_enter Try.func8, Try.ntmps8
  go_wp2_with fail
  refine (eqChanS_same ao bo cap cap' ts us _ hl hf hv (hz.later dChan_ok hB0) (hz'.later dChan_ok hB0)).mono ?_
  rintro e w1 ⟨rfl, hb1⟩
  have hB1 := hB0.trans (hb1.mono hB0.size)
  go_wp2
  go_ret
  exact ⟨rfl, hB1⟩
end
section
open Go.RowKit

theorem Bx.grown {W W' : World} {p g : Nat} {us : List Value} (h : Bx W p us) (hg : W.grownBy W' (some g)) (hne : p ≠ g) : Bx W' p us := h.keep hg.size (hg.block p h.1 (by simpa using hne))
section
variable {α : Type} {K : Kind α}
/-- Elements are put behind a row of its own that is not nil: it stays in its block, or lies in a new one. -/
theorem Kind.appO [Inhabited α] (hK : K.Ok) {ops : Array Oper} {rest : List Oper} {o : Oper} {a : Act} {Q : Exit → Act → World → Prop} (W : World) (hg : o.guard = none) (s x : Operand) (hop : o.op = Op.call { callee := Callee.builtin Builtin.append, args := #[s, x], argTypes := #[K.st, K.st] })
    (lo g n cap : Nat) (xs : List α) (hs : a.eval s = .slice (some ⟨g, 0, none⟩) n cap) (hown : K.Own lo W (.slice (some ⟨g, 0, none⟩) n cap) xs) (hlo : lo ≤ W.heap.size)
    (ao : Option Addr) (ys : List α) (m c : Nat) (hx : a.eval x = .slice ao m c) (hm : ys.length = m) (hno : ao = none → c = 0) (N : Nat) (hz : K.In N W ao ys) (hl : xs.length + ys.length ≤ 4194304) (zs : List α) (hzs : zs = xs ++ ys)
    (hk : ∀ g' c' w', K.Own lo w' (.slice (some ⟨g', 0, none⟩) zs.length c') zs → Below lo W w' → W.grownBy w' (some g) → (g' = g ∨ W.heap.size ≤ g') → wpList Try.prog ops Q rest (a.put o.dst (.slice (some ⟨g', 0, none⟩) zs.length c')) w') :
    wpList Try.prog ops Q (o :: rest) a W := by
  subst hzs
  obtain ⟨i0, z0, hin, hz0, hz1, hz2, hz3⟩ := hK.info
  obtain ⟨g2, c2, e2, _⟩ := Kind.Own.some hown some_ne
  simp at e2
  obtain ⟨rfl, rfl, rfl⟩ := e2
  cases ao with
  | none =>
    have hy : ys = [] := by rcases hz with h | ⟨b, off, e, _⟩; exact h; cases e
    subst hy
    have hc := hno rfl
    subst hc hm
    have hrun := run_append_owned_none (P := Try.prog) W lo K.st o.type K.ty i0 K.sz hK.und hin _ xs.length (K.flat xs) hown
    refine wpList_plain hg fun K' hK' => ?_
    unfold Oper.wp
    simp [execOp, hop, resolve, invoke, builtin, hs, hx, hrun, Result.andThen]
    have h := hk g cap W (by simpa using hown) (Below.refl _ _) ⟨rfl, rfl, rfl, Nat.le_refl _, fun _ _ _ => rfl⟩ (.inl rfl)
    simp only [List.append_nil] at h
    exact hK' _ _ h
  | some ad =>
    subst hm
    have hb : (xs.length + ys.length) * i0.bytes ≤ 140737488355328 := by
      have : (xs.length + ys.length) * i0.bytes ≤ 4194304 * 4096 := Nat.mul_le_mul hl hz3
      omega
    have hml : xs.length + ys.length ≤ maxLen := by unfold maxLen; omega
    obtain ⟨v', w', hr, h2, h3, h4⟩ := run_append_own (P := Try.prog) W lo K.st o.type K.ty i0 z0 K.sz i0.bytes hK.und hin hz0 hz1 rfl hz2 hK.pos _ xs.length (K.flat xs) hown ad ys.length c (K.flat ys) (K.flat_len ys) hz.src (K.flat_one ys) hml hb hlo
    have hwhere : ∃ g' c', v' = .slice (some ⟨g', 0, none⟩) (xs.length + ys.length) c' ∧ (g' = g ∨ W.heap.size ≤ g') := by
      by_cases hroom : xs.length + ys.length ≤ cap
      · obtain ⟨cur, hcur, hcl, _⟩ := owns_open hown
        have hr2 := run_append_room (P := Try.prog) W K.st o.type K.ty i0 hK.und hin g xs.length cap cur.toArray hcur ad ys.length c (K.flat ys) (by rw [hz1]; exact K.flat_len ys) hz.src (K.flat_one ys) hroom (by rw [hz1, K.flat_len, ← Nat.add_mul]; simp only [List.size_toArray, hcl]; exact Nat.mul_le_mul_right _ hroom)
        rw [hr] at hr2
        injection hr2 with e1 _
        exact ⟨g, cap, e1, .inl rfl⟩
      · have holds : ∀ j u, (K.flat xs)[j]? = some u → W.cell? ((⟨g, 0, none⟩ : Addr).add j) = some u := World.ownsRow.cells (g := g) hown rfl
        have hr2 := run_append_grow (P := Try.prog) W K.st o.type K.ty i0 z0 hK.und hin hz0 ⟨g, 0, none⟩ xs.length cap (K.flat xs) (by rw [hz1]; exact K.flat_len xs) holds ad ys.length c (K.flat ys) (by rw [hz1]; exact K.flat_len ys) hz.src (by omega) (by omega) (growslice_fits (by omega) hb)
        rw [hr] at hr2
        injection hr2 with e1 _
        exact ⟨_, _, e1, .inr (Nat.le_refl _)⟩
    obtain ⟨g', c', rfl, hw⟩ := hwhere
    refine wpList_plain hg fun K' hK' => ?_
    unfold Oper.wp execOp
    simp only [hop, resolve, invoke, builtin, Sem.run_bind, Sem.run_pure, Result.andThen_ok, List.map_toArray, List.map_cons, List.map_nil, hs, hx, hr]
    have ho' : K.Own lo w' (.slice (some ⟨g', 0, none⟩) (xs ++ ys).length c') (xs ++ ys) := by unfold Kind.Own; rw [K.flat_app, List.length_append]; exact h2
    have h := hk g' c' w' ho' (hown.belowG h3 hlo) h3 hw
    rw [List.length_append] at h
    exact hK' _ _ h
/-- Elements are put behind a row of its own (nil or not), at one operation. -/
theorem Kind.appW [Inhabited α] (hK : K.Ok) {o : Oper} {a : Act} {K' : Act → World → Prop} {Q : Exit → Act → World → Prop} (W : World) (s x : Operand) (hop : o.op = Op.call { callee := Callee.builtin Builtin.append, args := #[s, x], argTypes := #[K.st, K.st] })
    (lo : Nat) (v : Value) (xs : List α) (hs : a.eval s = v) (hown : K.Own lo W v xs) (hlo : lo ≤ W.heap.size)
    (ao : Option Addr) (ys : List α) (m c : Nat) (hx : a.eval x = .slice ao m c) (hm : ys.length = m) (hno : ao = none → c = 0) (n : Nat) (hz : K.In n W ao ys) (hl : xs.length + ys.length ≤ 4194304)
    (hk : ∀ v' w', K.Own lo w' v' (xs ++ ys) → Below lo W w' → W.grownBy w' v.ownBlock → (v ≠ .slice none 0 0 → v' ≠ .slice none 0 0) → K' (a.put o.dst v') w') :
    Oper.wp Try.prog o a W K' Q := by
  obtain ⟨i0, z0, hin, hz0, hz1, hz2, hz3⟩ := hK.info
  cases ao with
  | none =>
    have hy : ys = [] := by rcases hz with h | ⟨b, off, e, _⟩; exact h; cases e
    subst hy
    have hc := hno rfl
    subst hc hm
    have hrun := run_append_owned_none (P := Try.prog) W lo K.st o.type K.ty i0 K.sz hK.und hin v xs.length (K.flat xs) hown
    unfold Oper.wp
    simp [execOp, hop, resolve, invoke, builtin, hs, hx, hrun, Result.andThen]
    exact hk v W (by simpa using hown) (Below.refl _ _) ⟨rfl, rfl, rfl, Nat.le_refl _, fun _ _ _ => rfl⟩ id
  | some ad =>
    subst hm
    have hb : (xs.length + ys.length) * i0.bytes ≤ 140737488355328 := by
      have : (xs.length + ys.length) * i0.bytes ≤ 4194304 * 4096 := Nat.mul_le_mul hl hz3
      omega
    obtain ⟨v', w', hr, h2, h3, h4⟩ := run_append_own (P := Try.prog) W lo K.st o.type K.ty i0 z0 K.sz i0.bytes hK.und hin hz0 hz1 rfl hz2 hK.pos v xs.length (K.flat xs) hown ad ys.length c (K.flat ys) (K.flat_len ys) hz.src (K.flat_one ys) (by unfold maxLen; omega) hb hlo
    unfold Oper.wp execOp
    simp only [hop, resolve, invoke, builtin, Sem.run_bind, Sem.run_pure, Result.andThen_ok, List.map_toArray, List.map_cons, List.map_nil, hs, hx, hr]
    refine hk v' w' ?_ (hown.belowG h3 hlo) h3 fun hv e => hv (h4.1 e).1
    unfold Kind.Own
    rw [K.flat_app, List.length_append]; exact h2
/-- .. at a step of a region that draws its order. -/
theorem Kind.appS [Inhabited α] (hK : K.Ok) {ops : Array Oper} {o : Oper} {a : Act} {K' : Act → World → Prop} {Q : Exit → Act → World → Prop} {E : Prop} (W : World) (hg : o.guard = none) (s x : Operand) (hop : o.op = Op.call { callee := Callee.builtin Builtin.append, args := #[s, x], argTypes := #[K.st, K.st] })
    (lo : Nat) (v : Value) (xs : List α) (hs : a.eval s = v) (hown : K.Own lo W v xs) (hlo : lo ≤ W.heap.size)
    (ao : Option Addr) (ys : List α) (m c : Nat) (hx : a.eval x = .slice ao m c) (hm : ys.length = m) (hno : ao = none → c = 0) (n : Nat) (hz : K.In n W ao ys) (hl : xs.length + ys.length ≤ 4194304)
    (hk : ∀ v' w', K.Own lo w' v' (xs ++ ys) → Below lo W w' → W.grownBy w' v.ownBlock → (v ≠ .slice none 0 0 → v' ≠ .slice none 0 0) → K' (a.put o.dst v') w') :
    if Region.wanted o (yielded ops a.tmps) = true then Oper.wp Try.prog o a W K' Q else E := by
  rw [if_pos (by simp [Region.wanted, hg])]
  exact Kind.appW hK W s x hop lo v xs hs hown hlo ao ys m c hx hm hno n hz hl hk
/-- Elements are put behind a row of its own, nil or not: it stays in its block, or lies in a new one. -/
theorem Kind.appN [Inhabited α] (hK : K.Ok) {ops : Array Oper} {rest : List Oper} {o : Oper} {a : Act} {Q : Exit → Act → World → Prop} (W : World) (hg : o.guard = none) (s x : Operand) (hop : o.op = Op.call { callee := Callee.builtin Builtin.append, args := #[s, x], argTypes := #[K.st, K.st] })
    (lo : Nat) (v : Value) (xs : List α) (hs : a.eval s = v) (hown : K.Own lo W v xs) (hlo : lo ≤ W.heap.size)
    (ao : Option Addr) (ys : List α) (m c : Nat) (hx : a.eval x = .slice ao m c) (hm : ys.length = m) (hno : ao = none → c = 0) (n : Nat) (hz : K.In n W ao ys) (hl : xs.length + ys.length ≤ 4194304)
    (hk : ∀ v' w', K.Own lo w' v' (xs ++ ys) → Below lo W w' → W.grownBy w' v.ownBlock → (∀ g, v'.ownBlock = some g → v.ownBlock = some g ∨ W.heap.size ≤ g) → wpList Try.prog ops Q rest (a.put o.dst v') w') :
    wpList Try.prog ops Q (o :: rest) a W := by
  rcases hown.2 with ⟨e, h0⟩ | ⟨g, cap, cur, e, hb, hh, r⟩
  · have hxs : xs = [] := List.length_eq_zero_iff.1 h0
    subst hxs e
    refine Kind.app hK W hg s x hop W.heap.size (.slice none 0 0) [] hs (Kind.Own.nil _ _ _) (Nat.le_refl _) ao ys m c hx hm hno n hz hl fun v' w' hO hB hG _ => ?_
    refine hk v' w' ?_ (hB.mono hlo) hG fun g hg => .inr (hO.low g hg)
    rcases hO.2 with h | ⟨g, cap, cur, hv, hb, r⟩
    · exact ⟨hO.1, .inl h⟩
    · exact ⟨hO.1, .inr ⟨g, cap, cur, hv, Nat.le_trans hlo hb, r⟩⟩
  · subst e
    refine Kind.appO hK W hg s x hop lo g xs.length cap xs hs hown hlo ao ys m c hx hm hno n hz hl _ rfl fun g' c' w' hO hB hG hw => ?_
    refine hk _ w' hO hB hG fun b hb => ?_
    simp [Value.ownBlock] at hb ⊢
    subst hb
    rcases hw with h | h
    · exact .inl h.symm
    · exact .inr h
end
end
end Go.Proofs.Ytdjdbcfcccbhpaa
