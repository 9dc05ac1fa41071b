
/- A keeper copied, by the program and by the specification. No conditions but those written. -/
import Derived.Test.YtbpacibfboldcaaDoorKq
namespace Go.Proofs.YtbpacibfboldcaaDoor
open Go.RowKit

theorem run_append_none2 {P : Program} {w : World} (base : Nat) (t ty e : TypeId) (i : TypeInfo) (size c : Nat) (ht : P.underlying t = some (.slice e)) (hi : P.info? e = some i) (v : Value) (n : Nat) (xs : List Value) (hown : w.ownsRow base e size v n xs) :
    (Builtin.append_ #[t, t] ty #[v, .slice none 0 c]).run P w = .ok v w := by
  rcases hown.2 with ⟨rfl, rfl⟩ | ⟨g, cap, cur, rfl, _, _, hnc, _⟩
  · simp [Builtin.append_, run_underlying ht, sizeOf, typeInfo, hi, Builtin.lenOf, Builtin.firstCells]
  · simp [Builtin.append_, run_underlying ht, sizeOf, typeInfo, hi, Builtin.lenOf, Builtin.firstCells, hnc, storeCells]
theorem Kind.app2 {α : Type} {K : Kind α} [Inhabited α] (hK : K.Ok) {ops : Array Oper} {rest : List Oper} {o : Oper} {a : Act} {Q : Exit → Act → World → Prop} (W : World) (hg : o.guard = none) (s x : Operand) (hop : o.op = Op.call { callee := Callee.builtin Builtin.append, args := #[s, x], argTypes := #[K.st, K.st] })
    (lo : Nat) (v : Value) (xs : List α) (hs : a.eval s = v) (hown : K.Own lo W v xs) (hlo : lo ≤ W.heap.size)
    (ao : Option Addr) (ys : List α) (m c : Nat) (hx : a.eval x = .slice ao m c) (hm : ys.length = m) (n : Nat) (hz : K.In n W ao ys) (hl : xs.length + ys.length ≤ 4194304)
    (hk : ∀ v' w', K.Own lo w' v' (xs ++ ys) → Below lo W w' → W.grownBy w' v.ownBlock → (v ≠ .slice none 0 0 → v' ≠ .slice none 0 0) → wpList Tryd.prog ops Q rest (a.put o.dst v') w') :
    wpList Tryd.prog ops Q (o :: rest) a W := by
  obtain ⟨i0, z0, hin, hz0, hz1, hz2, hz3⟩ := hK.info
  cases ao with
  | none =>
    have hy : ys = [] := by rcases hz with h | ⟨b, off, e, _⟩; exact h; cases e
    subst hy
    subst hm
    have hrun := run_append_none2 (P := Tryd.prog) (w := W) lo K.st o.type K.ty i0 K.sz c hK.und hin v xs.length (K.flat xs) hown
    refine wpList_plain hg fun K' hK' => ?_
    unfold Oper.wp
    simp [execOp, hop, resolve, invoke, builtin, hs, hx, hrun, Result.andThen]
    exact hK' _ _ (hk v W (by simpa using hown) (Below.refl _ _) ⟨rfl, rfl, rfl, Nat.le_refl _, fun _ _ _ => rfl⟩ id)
  | some ad =>
    subst hm
    refine wpList_append_own W hg s x K.st hop lo K.ty i0 z0 K.sz i0.bytes hK.und hin hz0 hz1 rfl hz2 hK.pos v xs.length (K.flat xs) hs hown ad ys.length c (K.flat ys) hx (K.flat_len ys) hz.src (K.flat_one ys) (by unfold maxLen; omega) ?_ hlo ?_
    · have : (xs.length + ys.length) * i0.bytes ≤ 4194304 * 4096 := Nat.mul_le_mul hl hz3
      omega
    · intro v' w' ho hgr hnil
      refine hk v' w' ?_ (hown.belowG hgr hlo) hgr fun hv e => hv (hnil.1 e).1
      unfold Kind.Own
      rw [K.flat_app, List.length_append]; exact ho
set_option maxHeartbeats 1000000 in
theorem copyListI_any (ao : Option Addr) (cap : Nat) (ts : List (Int)) (w : World) (hl : ts.length ≤ 1048576) (hz : kI.In w.heap.size w ao ts) :
    Calls Tryd.prog 61 #[.slice ao ts.length cap] w fun e w' => (∃ to, e = .returned (.slice to ts.length ts.length) ∧ kI.Fresh w.heap.size w'.heap.size w' to ts.length ts) ∧ Below w.heap.size w w' := by
  by_cases h0 : ts.length = 0
  · obtain rfl : ts = [] := List.length_eq_zero_iff.1 h0
    go_enter Tryd.func61, Tryd.ntmps61
    go_wp2
    go_ret
    exact ⟨⟨none, rfl, .inl rfl⟩, Below.refl _ _⟩
  · have h0' : ((ts.length : Int) == 0) = false := (len1 h0).1
    obtain ⟨i0, z0, hi, hz0, hz1, hz2, hz3⟩ := kI_ok.info
    have HZ : Hid (kI.In w.heap.size w ao ts) := hz
    have hby : i0.bytes * ts.length ≤ 281474976710656 := by have : i0.bytes * ts.length ≤ 4096 * 1048576 := Nat.mul_le_mul hz3 hl; omega
    clear hz
    go_enter Tryd.func61, Tryd.ntmps61
    go_wp2_with (at_make; refine wpList_make_full _ rfl _ _ kI.st rfl w.heap.size kI.ty i0 z0 kI.sz kI_ok.und hi hz0 hz1 .i64 .i64 _ _ ts.length rfl rfl rfl rfl hby (by unfold maxLen; omega) (Nat.le_refl _) ?_; intro w1 hown hgrow; obtain ⟨cur, hcur, hcl, _⟩ := owns_open hown; have hB1 : Below w.heap.size w w1 := (Below.refl _ _).grown hgrow (Nat.le_refl _) (fun k e => by cases e); obtain ⟨w2, hrun, hh, hO⟩ := Kind.run_copy (n := ts.length) (cap := cap) (ty := 3) kI_ok hcur hcl (Nat.le_refl _) HZ.out hB1; have hB2 : Below w.heap.size w w2 := hB1.trans (hO.below (Nat.le_refl _)); have HH := show Hid (_ ∧ _) from And.intro hcl hh; unfold kI at hrun; dsimp only at hrun; clear hown hgrow hcur hh hO hcl)
    go_ret
    have e : cur.drop (ts.length * kI.sz) = [] := List.drop_eq_nil_of_le (by rw [HH.out.1]; exact Nat.le_refl _)
    have hh := HH.out.2
    rw [e, List.append_nil] at hh
    exact ⟨⟨_, rfl, .inr ⟨w.heap.size, rfl, (Array.getElem?_eq_some_iff.1 hh).1, Kind.own_of_heap hh rfl (Nat.le_refl _) (by omega)⟩⟩, hB2⟩
set_option maxHeartbeats 1000000 in
theorem copyListB_any (ao : Option Addr) (cap : Nat) (ts : List (Bool)) (w : World) (hl : ts.length ≤ 1048576) (hz : kB.In w.heap.size w ao ts) :
    Calls Tryd.prog 60 #[.slice ao ts.length cap] w fun e w' => (∃ to, e = .returned (.slice to ts.length ts.length) ∧ kB.Fresh w.heap.size w'.heap.size w' to ts.length ts) ∧ Below w.heap.size w w' := by
  by_cases h0 : ts.length = 0
  · obtain rfl : ts = [] := List.length_eq_zero_iff.1 h0
    go_enter Tryd.func60, Tryd.ntmps60
    go_wp2
    go_ret
    exact ⟨⟨none, rfl, .inl rfl⟩, Below.refl _ _⟩
  · have h0' : ((ts.length : Int) == 0) = false := (len1 h0).1
    obtain ⟨i0, z0, hi, hz0, hz1, hz2, hz3⟩ := kB_ok.info
    have HZ : Hid (kB.In w.heap.size w ao ts) := hz
    have hby : i0.bytes * ts.length ≤ 281474976710656 := by have : i0.bytes * ts.length ≤ 4096 * 1048576 := Nat.mul_le_mul hz3 hl; omega
    clear hz
    go_enter Tryd.func60, Tryd.ntmps60
    go_wp2_with (at_make; refine wpList_make_full _ rfl _ _ kB.st rfl w.heap.size kB.ty i0 z0 kB.sz kB_ok.und hi hz0 hz1 .i64 .i64 _ _ ts.length rfl rfl rfl rfl hby (by unfold maxLen; omega) (Nat.le_refl _) ?_; intro w1 hown hgrow; obtain ⟨cur, hcur, hcl, _⟩ := owns_open hown; have hB1 : Below w.heap.size w w1 := (Below.refl _ _).grown hgrow (Nat.le_refl _) (fun k e => by cases e); obtain ⟨w2, hrun, hh, hO⟩ := Kind.run_copy (n := ts.length) (cap := cap) (ty := 3) kB_ok hcur hcl (Nat.le_refl _) HZ.out hB1; have hB2 : Below w.heap.size w w2 := hB1.trans (hO.below (Nat.le_refl _)); have HH := show Hid (_ ∧ _) from And.intro hcl hh; unfold kB at hrun; dsimp only at hrun; clear hown hgrow hcur hh hO hcl)
    go_ret
    have e : cur.drop (ts.length * kB.sz) = [] := List.drop_eq_nil_of_le (by rw [HH.out.1]; exact Nat.le_refl _)
    have hh := HH.out.2
    rw [e, List.append_nil] at hh
    exact ⟨⟨_, rfl, .inr ⟨w.heap.size, rfl, (Array.getElem?_eq_some_iff.1 hh).1, Kind.own_of_heap hh rfl (Nat.le_refl _) (by omega)⟩⟩, hB2⟩
/-- A Keeper in its own memory, as an ending. -/
def AnsKeeper (w : World) (kd : Int) (mr : Int) (wi : Int) (up : Int) (ch : Int) (ov : Bool) (r : List (Bool)) (f : List (Int)) (e : Ending) (w' : World) : Prop := (∃ ro rc fo fc, e = .returned (.agg #[.int .i64 kd, .int .i64 mr, .int .i64 wi, .int .i64 up, .int .i64 ch, .slice ro r.length rc, .slice fo f.length fc, .bool ov]) ∧ FrKeeper w.heap.size w'.heap.size w' ro rc r fo fc f) ∧ Below w.heap.size w w'
theorem own_frs {α : Type} {K : Kind α} {lo : Nat} {W : World} {g n c : Nat} {xs : List α} (h : K.Own lo W (.slice (some ⟨g, 0, none⟩) n c) xs) : K.Fresh lo W.heap.size W (some ⟨g, 0, none⟩) c xs := by
  obtain ⟨g', c', e, hF⟩ := h.some some_ne
  simp at e
  obtain ⟨rfl, _, rfl⟩ := e
  exact hF
theorem Off.of_ne {g g' n m : Nat} (h : g ≠ g') : Off (some ⟨g, 0, none⟩) n (some ⟨g', 0, none⟩) m := .inr (.inr fun e => by cases e; exact h rfl)
theorem own_grown {α : Type} {K : Kind α} {lo : Nat} {W W' : World} {g n c h : Nat} {xs : List α} (ho : K.Own lo W (.slice (some ⟨g, 0, none⟩) n c) xs) (hg : W.grownBy W' (some h)) (hne : g ≠ h) : K.Own lo W' (.slice (some ⟨g, 0, none⟩) n c) xs := by
  obtain ⟨g', c', e, _⟩ := ho.some some_ne
  simp at e
  obtain ⟨_, rfl, _⟩ := e
  exact owns_block ho (hg.block g (owns_lt ho).2 (by simpa using hne))
theorem own_at {α : Type} {K : Kind α} {lo : Nat} {W : World} {g n c : Nat} {xs : List α} (ho : K.Own lo W (.slice (some ⟨g, 0, none⟩) n c) xs) : lo ≤ g ∧ g < W.heap.size := by
  obtain ⟨g', c', e, _⟩ := ho.some some_ne
  simp at e
  obtain ⟨_, rfl, _⟩ := e
  exact owns_lt ho
theorem own_wide {α : Type} {K : Kind α} {lo lo' : Nat} {W : World} {g n c : Nat} {xs : List α} (ho : K.Own lo W (.slice (some ⟨g, 0, none⟩) n c) xs) (h : lo' ≤ g) : K.Own lo' W (.slice (some ⟨g, 0, none⟩) n c) xs := by
  obtain ⟨g', c', e, _⟩ := ho.some some_ne
  simp at e
  obtain ⟨_, rfl, _⟩ := e
  exact ownsRow_base ho h
/-- What lies behind a Keeper, no row nil, each a row of its own. -/
def OKeeper (lo : Nat) (W : World) (gr rc : Nat) (r : List (Bool)) (gf fc : Nat) (f : List (Int)) : Prop := kB.Own lo W (.slice (some ⟨gr, 0, none⟩) r.length rc) r ∧ kI.Own lo W (.slice (some ⟨gf, 0, none⟩) f.length fc) f ∧ gr ≠ gf
theorem OKeeper.below {lo : Nat} {W W' : World} {gr rc : Nat} {r : List (Bool)} {gf fc : Nat} {f : List (Int)} (h : OKeeper lo W gr rc r gf fc f) (hb : Below W.heap.size W W') : OKeeper lo W' gr rc r gf fc f := ⟨h.1.below hb, h.2.1.below hb, h.2.2⟩
theorem OKeeper.setBelow {lo : Nat} {W : World} {gr rc : Nat} {r : List (Bool)} {gf fc : Nat} {f : List (Int)} (h : OKeeper lo W gr rc r gf fc f) {a : Addr} (ha : a.block < lo) (u : Value) : OKeeper lo (W.setCell a u) gr rc r gf fc f := ⟨h.1.setBelow ha u, h.2.1.setBelow ha u, h.2.2⟩
theorem OKeeper.fr {lo : Nat} {W : World} {gr rc : Nat} {r : List (Bool)} {gf fc : Nat} {f : List (Int)} (h : OKeeper lo W gr rc r gf fc f) : FrKeeper lo W.heap.size W (some ⟨gr, 0, none⟩) rc r (some ⟨gf, 0, none⟩) fc f := ⟨(own_frs h.1), (own_frs h.2.1)⟩
theorem OKeeper.low {lo lo' : Nat} {W : World} {gr rc : Nat} {r : List (Bool)} {gf fc : Nat} {f : List (Int)} (h : OKeeper lo W gr rc r gf fc f) (hl : lo' ≤ lo) : OKeeper lo' W gr rc r gf fc f := ⟨own_wide h.1 (Nat.le_trans hl (own_at h.1).1), own_wide h.2.1 (Nat.le_trans hl (own_at h.2.1).1), h.2.2⟩
theorem OKeeper.in {lo : Nat} {W : World} {gr rc : Nat} {r : List (Bool)} {gf fc : Nat} {f : List (Int)} (h : OKeeper lo W gr rc r gf fc f) : InKeeper W.heap.size W (some ⟨gr, 0, none⟩) r (some ⟨gf, 0, none⟩) f := h.fr.in
theorem OKeeper.put0 {lo : Nat} {W W' : World} {gr rc : Nat} {r : List (Bool)} {gf fc : Nat} {f : List (Int)} (h : OKeeper lo W gr rc r gf fc f) {g' c' : Nat} {zs : List (Bool)} (ho : kB.Own lo W' (.slice (some ⟨g', 0, none⟩) zs.length c') zs) (hG : W.grownBy W' (some gr)) (hw : g' = gr ∨ W.heap.size ≤ g') : OKeeper lo W' g' c' zs gf fc f := ⟨ho, own_grown h.2.1 hG (Ne.symm h.2.2), (by have h1 := h.2.2; have h2 := (own_at h.2.1).2; rcases hw with rfl | hw <;> omega)⟩
theorem OKeeper.put1 {lo : Nat} {W W' : World} {gr rc : Nat} {r : List (Bool)} {gf fc : Nat} {f : List (Int)} (h : OKeeper lo W gr rc r gf fc f) {g' c' : Nat} {zs : List (Int)} (ho : kI.Own lo W' (.slice (some ⟨g', 0, none⟩) zs.length c') zs) (hG : W.grownBy W' (some gf)) (hw : g' = gf ∨ W.heap.size ≤ g') : OKeeper lo W' gr rc r g' c' zs := ⟨own_grown h.1 hG h.2.2, ho, (by have h1 := h.2.2; have h2 := (own_at h.1).2; rcases hw with rfl | hw <;> omega)⟩
/-- A Keeper in its own memory, its rows not nil, as an ending. -/
def OwnKeeper (w : World) (kd : Int) (mr : Int) (wi : Int) (up : Int) (ch : Int) (ov : Bool) (r : List (Bool)) (f : List (Int)) (e : Ending) (w' : World) : Prop := (∃ gr rc gf fc, e = .returned (.agg #[.int .i64 kd, .int .i64 mr, .int .i64 wi, .int .i64 up, .int .i64 ch, .slice (some ⟨gr, 0, none⟩) r.length rc, .slice (some ⟨gf, 0, none⟩) f.length fc, .bool ov]) ∧ OKeeper w.heap.size w' gr rc r gf fc f) ∧ Below w.heap.size w w'
/-- nil has no room. -/
def WfKeeper (ro : Option Addr) (rc : Nat) (fo : Option Addr) (fc : Nat) : Prop := (ro = none → rc = 0) ∧ (fo = none → fc = 0)
set_option maxRecDepth 10000 in
set_option maxHeartbeats 8000000 in
theorem copyKeeper_any (kd : Int) (mr : Int) (wi : Int) (up : Int) (ch : Int) (ov : Bool) (ro : Option Addr) (rc : Nat) (r : List (Bool)) (fo : Option Addr) (fc : Nat) (f : List (Int)) (w : World) (hlr : r.length ≤ 1048576) (hlf : f.length ≤ 1048576) (hz : InKeeper w.heap.size w ro r fo f) :
    Calls Tryd.prog 34 #[.agg #[.int .i64 kd, .int .i64 mr, .int .i64 wi, .int .i64 up, .int .i64 ch, .slice ro r.length rc, .slice fo f.length fc, .bool ov]] w fun e w' => AnsKeeper w kd mr wi up ch ov r f e w' := by
  obtain ⟨W2, hW2⟩ : ∃ W2, W2 = (w.alloc (.cells #[.int .i64 kd, .int .i64 mr, .int .i64 wi, .int .i64 up, .int .i64 ch, .slice ro r.length rc, .slice fo f.length fc, .bool ov] 27)).alloc (.cells #[.int .i64 0, .int .i64 0, .int .i64 0, .int .i64 0, .int .i64 0, .slice none 0 0, .slice none 0 0, .bool false] 27) := ⟨_, rfl⟩
  have hB2 : Below w.heap.size w W2 := by rw [hW2]; exact below2 _ _ _
  have A2 : Bx W2 w.heap.size [.int .i64 kd, .int .i64 mr, .int .i64 wi, .int .i64 up, .int .i64 ch, .slice ro r.length rc, .slice fo f.length fc, .bool ov] := by rw [hW2]; exact (Bx.new [.int .i64 kd, .int .i64 mr, .int .i64 wi, .int .i64 up, .int .i64 ch, .slice ro r.length rc, .slice fo f.length fc, .bool ov] _ rfl).alloc _
  have R2 : Bx W2 (w.heap.size + 1) [.int .i64 0, .int .i64 0, .int .i64 0, .int .i64 0, .int .i64 0, .slice none 0 0, .slice none 0 0, .bool false] := by rw [hW2]; exact Bx.new [.int .i64 0, .int .i64 0, .int .i64 0, .int .i64 0, .int .i64 0, .slice none 0 0, .slice none 0 0, .bool false] _ (by simp)
  have HW := hid hW2
  have HS : Hid (W2.heap.size = w.heap.size + 1 + 1) := by rw [hW2]; simp [Hid]
  clear hW2
  have a5 := A2.c 5 rfl
  have a6 := A2.c 6 rfl
  go_enter Tryd.func34, Tryd.ntmps34
  go_wp2
  rw [← HW.out]
  go_region_with (first
    | (go_at_call 61; refine (copyListI_any fo fc f w1 hlf (by exact hz.2.later hC1)).mono ?_; rintro e w2 ⟨⟨gof, rfl, hF1⟩, hb1⟩; have hC2 : Below w.heap.size w w2 := hC1.trans (hb1.mono hC1.size); have D2 := D1.later hb1; have E2 := E1.later hb1; have x0 := D2.c 0 rfl; have x1 := D2.c 1 rfl; have x2 := D2.c 2 rfl; have x3 := D2.c 3 rfl; have x4 := D2.c 4 rfl; have x5 := D2.c 5 rfl; have x6 := D2.c 6 rfl; have x7 := D2.c 7 rfl; have xf5 := D2.f 5 rfl; have xf6 := D2.f 6 rfl; have F2 : Hid (kB.Fresh W2.heap.size w1.heap.size w2 gor r.length r ∧ kI.Fresh w1.heap.size w2.heap.size w2 gof f.length f ∧ w1.heap.size ≤ w2.heap.size) := ⟨F1.out.1.later hb1, hF1, hb1.size⟩; have r0 := E2.c 0 rfl; have rf0 := E2.f 0 rfl; have r1 := E2.c 1 rfl; have rf1 := E2.f 1 rfl; have r2 := E2.c 2 rfl; have rf2 := E2.f 2 rfl; have r3 := E2.c 3 rfl; have rf3 := E2.f 3 rfl; have r4 := E2.c 4 rfl; have rf4 := E2.f 4 rfl; have r5 := E2.c 5 rfl; have rf5 := E2.f 5 rfl; have r6 := E2.c 6 rfl; have rf6 := E2.f 6 rfl; have r7 := E2.c 7 rfl; have rf7 := E2.f 7 rfl; clear hF1 hb1)
    | (go_at_call 60; refine (copyListB_any ro rc r _ hlr (by exact hz.1.later hB2.drew)).mono ?_; rintro e w1 ⟨⟨gor, rfl, hF0⟩, hb0⟩; have hC1 : Below w.heap.size w w1 := hB2.drew.trans (hb0.mono hB2.size); have D1 := A2.drew.later hb0; have E1 := R2.drew.later hb0; have y6 := D1.c 6 rfl; have F1 : Hid (kB.Fresh W2.heap.size w1.heap.size w1 gor r.length r ∧ W2.heap.size ≤ w1.heap.size) := ⟨hF0, hb0.size⟩; clear hF0 hb0))
  all_goals
    go_wp2
    refine bodyPost_ret (v := .agg #[.int .i64 kd, .int .i64 mr, .int .i64 wi, .int .i64 up, .int .i64 ch, .slice gor r.length r.length, .slice gof f.length f.length, .bool ov]) (by simp [results, Tryd.results34, go_sem, r0, r1, r2, r3, r4, r5, r6, r7]) rfl ⟨⟨gor, _, gof, _, rfl, ?_⟩, ?_⟩
    · have q0 := HS.out
      have q1 := F1.out.2
      have q2 := F2.out.2.2
      have h0 : FrKeeper (w.heap.size + 1 + 1) w2.heap.size w2 gor r.length r gof f.length f := ⟨F2.out.1.wide (by omega) (by omega), F2.out.2.1.wide (by omega) (by omega)⟩
      exact ((((((((((h0.setBelow (a := ⟨w.heap.size, 5, none⟩) (by dsimp only; omega) _).setBelow (a := ⟨w.heap.size, 6, none⟩) (by dsimp only; omega) _).setBelow (a := ⟨w.heap.size + 1, 0, none⟩) (by simp) _).setBelow (a := ⟨w.heap.size + 1, 1, none⟩) (by simp) _).setBelow (a := ⟨w.heap.size + 1, 2, none⟩) (by simp) _).setBelow (a := ⟨w.heap.size + 1, 3, none⟩) (by simp) _).setBelow (a := ⟨w.heap.size + 1, 4, none⟩) (by simp) _).setBelow (a := ⟨w.heap.size + 1, 5, none⟩) (by simp) _).setBelow (a := ⟨w.heap.size + 1, 6, none⟩) (by simp) _).setBelow (a := ⟨w.heap.size + 1, 7, none⟩) (by simp) _).wide (by omega) (by simp)
    · exact ((((((((((hC2.setCell (p := ⟨w.heap.size, 5, none⟩) (by simp) _).setCell (p := ⟨w.heap.size, 6, none⟩) (by simp) _).setCell (p := ⟨w.heap.size + 1, 0, none⟩) (by simp) _).setCell (p := ⟨w.heap.size + 1, 1, none⟩) (by simp) _).setCell (p := ⟨w.heap.size + 1, 2, none⟩) (by simp) _).setCell (p := ⟨w.heap.size + 1, 3, none⟩) (by simp) _).setCell (p := ⟨w.heap.size + 1, 4, none⟩) (by simp) _).setCell (p := ⟨w.heap.size + 1, 5, none⟩) (by simp) _).setCell (p := ⟨w.heap.size + 1, 6, none⟩) (by simp) _).setCell (p := ⟨w.heap.size + 1, 7, none⟩) (by simp) _)
set_option maxRecDepth 10000 in
set_option maxHeartbeats 8000000 in
theorem ownKeeper_any (kd : Int) (mr : Int) (wi : Int) (up : Int) (ch : Int) (ov : Bool) (ro : Option Addr) (rc : Nat) (r : List (Bool)) (fo : Option Addr) (fc : Nat) (f : List (Int)) (w : World) (hlr : r.length ≤ 1048576) (hlf : f.length ≤ 1048576) (hz : InKeeper w.heap.size w ro r fo f) :
    Calls Tryd.prog 26 #[.agg #[.int .i64 kd, .int .i64 mr, .int .i64 wi, .int .i64 up, .int .i64 ch, .slice ro r.length rc, .slice fo f.length fc, .bool ov]] w fun e w' => OwnKeeper w kd mr wi up ch ov r f e w' := by
  obtain ⟨V0, hV0⟩ : ∃ V0, V0 = (w.alloc (.cells #[.int .i64 kd, .int .i64 mr, .int .i64 wi, .int .i64 up, .int .i64 ch, .slice ro r.length rc, .slice fo f.length fc, .bool ov] 27)).alloc (.cells #[.int .i64 0, .int .i64 0, .int .i64 0, .int .i64 0, .int .i64 0, .slice none 0 0, .slice none 0 0, .bool false] 27) := ⟨_, rfl⟩
  have hB0 : Below w.heap.size w V0 := by rw [hV0]; exact below2 _ _ _
  have A0 : Hid (Bx V0 w.heap.size [.int .i64 kd, .int .i64 mr, .int .i64 wi, .int .i64 up, .int .i64 ch, .slice ro r.length rc, .slice fo f.length fc, .bool ov]) := by rw [hV0]; exact (Bx.new [.int .i64 kd, .int .i64 mr, .int .i64 wi, .int .i64 up, .int .i64 ch, .slice ro r.length rc, .slice fo f.length fc, .bool ov] _ rfl).alloc _
  have R0 : Hid (Bx V0 (w.heap.size + 1) [.int .i64 0, .int .i64 0, .int .i64 0, .int .i64 0, .int .i64 0, .slice none 0 0, .slice none 0 0, .bool false]) := by rw [hV0]; exact Bx.new [.int .i64 0, .int .i64 0, .int .i64 0, .int .i64 0, .int .i64 0, .slice none 0 0, .slice none 0 0, .bool false] _ (by simp)
  have HV0 : Hid (V0 = (w.alloc (.cells #[.int .i64 kd, .int .i64 mr, .int .i64 wi, .int .i64 up, .int .i64 ch, .slice ro r.length rc, .slice fo f.length fc, .bool ov] 27)).alloc (.cells #[.int .i64 0, .int .i64 0, .int .i64 0, .int .i64 0, .int .i64 0, .slice none 0 0, .slice none 0 0, .bool false] 27)) := hV0
  have HS0 : Hid (V0.heap.size = w.heap.size + 1 + 1) := by rw [hV0]; simp [Hid]
  have HT0 : Hid (w.heap.size + 1 < V0.heap.size) := by rw [HS0.out]; unfold Hid; omega
  clear hV0
  have HE0 : Hid (kB.Own V0.heap.size (V0.alloc (.cells #[] kB.ty)) (.slice (some ⟨V0.heap.size, 0, none⟩) 0 0) []) := Kind.Own.new kB _ V0 (Nat.le_refl _)
  have HZ0 : Hid (kB.In V0.heap.size (V0.alloc (.cells #[] kB.ty)) ro r) := (hz.1.later hB0).below (below1 _ _)
  rw [HS0.out] at HE0
  have a0 := A0.out.c 0 rfl
  have af0 := A0.out.f 0 rfl
  have a1 := A0.out.c 1 rfl
  have af1 := A0.out.f 1 rfl
  have a2 := A0.out.c 2 rfl
  have af2 := A0.out.f 2 rfl
  have a3 := A0.out.c 3 rfl
  have af3 := A0.out.f 3 rfl
  have a4 := A0.out.c 4 rfl
  have af4 := A0.out.f 4 rfl
  have a5 := A0.out.c 5 rfl
  have af5 := A0.out.f 5 rfl
  have a6 := A0.out.c 6 rfl
  have af6 := A0.out.f 6 rfl
  have a7 := A0.out.c 7 rfl
  have af7 := A0.out.f 7 rfl
  go_enter Tryd.func26, Tryd.ntmps26
  go_wp2_with (at_builtin; first
    | (rw [← HV1.out]; refine Kind.app2 kI_ok (V1.alloc (.cells #[] kI.ty)) rfl (.tmp 8) (.tmp 10) rfl w1.heap.size (.slice (some ⟨w1.heap.size, 0, none⟩) 0 0) [] rfl HE1.out (by simp [HS1.out]) fo f f.length fc rfl rfl _ HZ1.out (by simp; omega) ?_; intro v2 w2 hO hB _ hn; have hBX : Below V1.heap.size V1 w2 := (below1 V1 _).trans (by rw [HS1.out]; exact hB); obtain ⟨gf, fc', rfl, _⟩ := Kind.Own.some hO (hn some_ne); rw [List.nil_append] at hO ⊢; have B2 := hid (A1.out.later hBX); have S2 := hid (R1.out.later hBX); have hBw2 := hB1.trans (hBX.mono hB1.size); have G2 : Hid (kB.Own (w.heap.size + 1 + 1) w2 (.slice (some ⟨gr, 0, none⟩) r.length rc') r ∧ kI.Own (w.heap.size + 1 + 1) w2 (.slice (some ⟨gf, 0, none⟩) f.length fc') f ∧ gr < w1.heap.size ∧ gf < w2.heap.size ∧ w1.heap.size ≤ gf) := ⟨F1.out.1.below hBX, own_wide hO (by have := HT1.out; have := HS1.out; have := (own_at hO).1; omega), F1.out.2, (own_at hO).2, (own_at hO).1⟩; have HQ2 : Hid (w.heap.size + 1 < w2.heap.size) := (by have := HT1.out; have := hBX.size; unfold Hid; omega); have HQo1 : Hid (w1.heap.size ≤ w2.heap.size) := (by have := hBX.size; have := HS1.out; unfold Hid; omega); have hq2 : w.heap.size + 1 < w2.heap.size := HQ2.out; have hp2 : w.heap.size < w2.heap.size := (by omega); clear hO hB hn hBX HE1 HZ1 HV1 A1 R1 hB1 F1 a0 af0 a1 af1 a2 af2 a3 af3 a4 af4 a5 af5 a6 af6 a7 af7; have a0 := B2.out.c 0 rfl; have af0 := B2.out.f 0 rfl; have a1 := B2.out.c 1 rfl; have af1 := B2.out.f 1 rfl; have a2 := B2.out.c 2 rfl; have af2 := B2.out.f 2 rfl; have a3 := B2.out.c 3 rfl; have af3 := B2.out.f 3 rfl; have a4 := B2.out.c 4 rfl; have af4 := B2.out.f 4 rfl; have a5 := B2.out.c 5 rfl; have af5 := B2.out.f 5 rfl; have a6 := B2.out.c 6 rfl; have af6 := B2.out.f 6 rfl; have a7 := B2.out.c 7 rfl; have af7 := B2.out.f 7 rfl; have r0 := S2.out.c 0 rfl; have rf0 := S2.out.f 0 rfl; have r1 := S2.out.c 1 rfl; have rf1 := S2.out.f 1 rfl; have r2 := S2.out.c 2 rfl; have rf2 := S2.out.f 2 rfl; have r3 := S2.out.c 3 rfl; have rf3 := S2.out.f 3 rfl; have r4 := S2.out.c 4 rfl; have rf4 := S2.out.f 4 rfl; have r5 := S2.out.c 5 rfl; have rf5 := S2.out.f 5 rfl; have r6 := S2.out.c 6 rfl; have rf6 := S2.out.f 6 rfl; have r7 := S2.out.c 7 rfl; have rf7 := S2.out.f 7 rfl)
    | (rw [← HV0.out]; refine Kind.app2 kB_ok (V0.alloc (.cells #[] kB.ty)) rfl (.tmp 3) (.tmp 5) rfl (w.heap.size + 1 + 1) (.slice (some ⟨(w.heap.size + 1 + 1), 0, none⟩) 0 0) [] rfl HE0.out (by simp [HS0.out]) ro r r.length rc rfl rfl _ HZ0.out (by simp; omega) ?_; intro v1 w1 hO hB _ hn; have hBX : Below V0.heap.size V0 w1 := (below1 V0 _).trans (by rw [HS0.out]; exact hB); obtain ⟨gr, rc', rfl, _⟩ := Kind.Own.some hO (hn some_ne); rw [List.nil_append] at hO ⊢; have B1 := hid (A0.out.later hBX); have S1 := hid (R0.out.later hBX); have hBw1 := hB0.trans (hBX.mono hB0.size); have G1 : Hid (kB.Own (w.heap.size + 1 + 1) w1 (.slice (some ⟨gr, 0, none⟩) r.length rc') r ∧ gr < w1.heap.size) := ⟨own_wide hO (by have := HT0.out; have := HS0.out; have := (own_at hO).1; omega), (own_at hO).2⟩; have HQ1 : Hid (w.heap.size + 1 < w1.heap.size) := (by have := HT0.out; have := hBX.size; unfold Hid; omega); have hq1 : w.heap.size + 1 < w1.heap.size := HQ1.out; have hp1 : w.heap.size < w1.heap.size := (by omega); clear hO hB hn hBX HE0 HZ0 HV0 A0 R0 hB0 a0 af0 a1 af1 a2 af2 a3 af3 a4 af4 a5 af5 a6 af6 a7 af7; have a0 := B1.out.c 0 rfl; have af0 := B1.out.f 0 rfl; have a1 := B1.out.c 1 rfl; have af1 := B1.out.f 1 rfl; have a2 := B1.out.c 2 rfl; have af2 := B1.out.f 2 rfl; have a3 := B1.out.c 3 rfl; have af3 := B1.out.f 3 rfl; have a4 := B1.out.c 4 rfl; have af4 := B1.out.f 4 rfl; have a5 := B1.out.c 5 rfl; have af5 := B1.out.f 5 rfl; have a6 := B1.out.c 6 rfl; have af6 := B1.out.f 6 rfl; have a7 := B1.out.c 7 rfl; have af7 := B1.out.f 7 rfl; obtain ⟨V1, hV1⟩ : ∃ V, V = w1.setCell ⟨w.heap.size, 5, none⟩ (.slice (some ⟨gr, 0, none⟩) r.length rc') := ⟨_, rfl⟩; have A1 : Hid (Bx V1 w.heap.size [.int .i64 kd, .int .i64 mr, .int .i64 wi, .int .i64 up, .int .i64 ch, .slice (some ⟨gr, 0, none⟩) r.length rc', .slice fo f.length fc, .bool ov]) := (by rw [hV1]; exact B1.out.set 5 (.slice (some ⟨gr, 0, none⟩) r.length rc')); have R1 : Hid (Bx V1 (w.heap.size + 1) [.int .i64 0, .int .i64 0, .int .i64 0, .int .i64 0, .int .i64 0, .slice none 0 0, .slice none 0 0, .bool false]) := (by rw [hV1]; exact S1.out.other (a := ⟨w.heap.size, 5, none⟩) (by simp) (.slice (some ⟨gr, 0, none⟩) r.length rc')); have HS1 : Hid (V1.heap.size = w1.heap.size) := (by rw [hV1]; simp [World.setCell, Hid]); have hB1 : Below w.heap.size w V1 := (by rw [hV1]; exact hBw1.setCell (p := ⟨w.heap.size, 5, none⟩) (Nat.le_refl _) _); have HT1 : Hid (w.heap.size + 1 < V1.heap.size) := (by rw [HS1.out]; exact HQ1.out); have F1 : Hid (kB.Own (w.heap.size + 1 + 1) V1 (.slice (some ⟨gr, 0, none⟩) r.length rc') r ∧ gr < w1.heap.size) := (by rw [hV1]; exact ⟨G1.out.1.setBelow (a := ⟨w.heap.size, 5, none⟩) (by simp; omega) (.slice (some ⟨gr, 0, none⟩) r.length rc'), G1.out.2⟩); have HE1 : Hid (kI.Own V1.heap.size (V1.alloc (.cells #[] kI.ty)) (.slice (some ⟨V1.heap.size, 0, none⟩) 0 0) []) := (Kind.Own.new kI _ V1 (Nat.le_refl _)); have HZ1 : Hid (kI.In V1.heap.size (V1.alloc (.cells #[] kI.ty)) fo f) := ((hz.2.later hB1).below (below1 _ _)); rw [HS1.out] at HE1; have HV1 : Hid (V1 = w1.setCell ⟨w.heap.size, 5, none⟩ (.slice (some ⟨gr, 0, none⟩) r.length rc')) := hV1; clear hV1 B1 S1 hBw1; clear G1))
  refine bodyPost_ret (v := .agg #[.int .i64 kd, .int .i64 mr, .int .i64 wi, .int .i64 up, .int .i64 ch, .slice (some ⟨gr, 0, none⟩) r.length rc', .slice (some ⟨gf, 0, none⟩) f.length fc', .bool ov]) (by simp [results, Tryd.results26, go_sem, r0, r1, r2, r3, r4, r5, r6, r7]) rfl ⟨⟨_, _, _, _, rfl, ?_⟩, ?_⟩
  · have h0 : OKeeper (w.heap.size + 1 + 1) w2 gr rc' r gf fc' f := ⟨G2.out.1, G2.out.2.1, (by have := G2.out.2.2.1; have := G2.out.2.2.2.1; have := G2.out.2.2.2.2; have := HQo1.out; omega)⟩
    exact OKeeper.low (((((((((h0.setBelow (a := ⟨w.heap.size, 6, none⟩) (by simp; omega) _).setBelow (a := ⟨w.heap.size + 1, 0, none⟩) (by simp) _).setBelow (a := ⟨w.heap.size + 1, 1, none⟩) (by simp) _).setBelow (a := ⟨w.heap.size + 1, 2, none⟩) (by simp) _).setBelow (a := ⟨w.heap.size + 1, 3, none⟩) (by simp) _).setBelow (a := ⟨w.heap.size + 1, 4, none⟩) (by simp) _).setBelow (a := ⟨w.heap.size + 1, 5, none⟩) (by simp) _).setBelow (a := ⟨w.heap.size + 1, 6, none⟩) (by simp) _).setBelow (a := ⟨w.heap.size + 1, 7, none⟩) (by simp) _) (by omega)
  · exact (((((((((hBw2.setCell (p := ⟨w.heap.size, 6, none⟩) (by simp) _).setCell (p := ⟨w.heap.size + 1, 0, none⟩) (by simp) _).setCell (p := ⟨w.heap.size + 1, 1, none⟩) (by simp) _).setCell (p := ⟨w.heap.size + 1, 2, none⟩) (by simp) _).setCell (p := ⟨w.heap.size + 1, 3, none⟩) (by simp) _).setCell (p := ⟨w.heap.size + 1, 4, none⟩) (by simp) _).setCell (p := ⟨w.heap.size + 1, 5, none⟩) (by simp) _).setCell (p := ⟨w.heap.size + 1, 6, none⟩) (by simp) _).setCell (p := ⟨w.heap.size + 1, 7, none⟩) (by simp) _)
end Go.Proofs.YtbpacibfboldcaaDoor
