
/- Growing and joining rows of waiters. No conditions but those written. -/
import Derived.Test.YtdjdbcfcccbhpaaPKbAo
namespace Go.Proofs.Ytdjdbcfcccbhpaa
open Go.RowKit

section
variable {α : Type} {K : Kind α}
theorem run_append_zeros {P : Program} (w : World) (t ty e ti : TypeId) (ik : IntKind) (i : TypeInfo) (z : Value) (ht : P.underlying t = some (.slice e)) (hti : P.underlying ti = some (.int ik)) (hi : P.info? e = some i) (hz : i.zero = some z)
    (n : Nat) (hn : 0 < n) (hs : 0 < i.size) (h63 : n ≤ 4194304) (hb : i.bytes ≤ 4096) :
    (Builtin.append_ #[t, ti] ty #[.slice none 0 0, .int .i64 (n : Int)]).run P w =
      .ok (.slice (some ⟨w.heap.size, 0, none⟩) n (grownCap w n 0 e)) (w.drew.alloc (.cells (Builtin.zeroCells z.cells n ++ Builtin.zeroCells z.cells (grownCap w n 0 e - n)) e)) := by
  have hbn : (n : Int) * (i.bytes : Int) ≤ 17179869184 := by
    have : n * i.bytes ≤ 4194304 * 4096 := Nat.mul_le_mul h63 hb
    omega
  have h1 : ¬ (281474976710656 < (n : Int) * (i.bytes : Int)) := by omega
  have h3 : ¬ (n * i.size = 0) := by
    intro h
    rcases Nat.mul_eq_zero.1 h with h | h <;> omega
  have hw : IntKind.i64.wrap (n : Int) = (n : Int) := by rw [IntKind.wrap_i64]; omega
  have hmx : max (n : Int) 0 = (n : Int) := by omega
  have h4 : ¬ (n = 0) := by omega
  have h5 : ¬ (281474976710656 < Builtin.nextslicecap n 0 * i.bytes) := by
    have := growslice_fits (need := n) (old := 0) (bytes := i.bytes) hn (by have : n * i.bytes ≤ 4194304 * 4096 := Nat.mul_le_mul h63 hb; omega)
    omega
  have h6 : ¬ (9223372036854775807 < (n : Int)) := by omega
  simp [Builtin.append_, run_underlying ht, run_underlying hti, sizeOf, typeInfo, zeroValue, hi, hz, asInt, asIntOf, hw, hmx, h1, h3, h4, h5, h6, Question.forced, Builtin.firstCells, newRow, grownCap]
  intro h; omega
set_option maxRecDepth 100000 in
/-- Noughts are put behind nil: a new row, of which nothing is taken yet. -/
theorem Kind.zeros [Inhabited α] (hK : K.Ok) {ops : Array Oper} {rest : List Oper} {o : Oper} {a : Act} {Q : Exit → Act → World → Prop} (W : World) (hg : o.guard = none) (s x : Operand) (hop : o.op = Op.call { callee := Callee.builtin Builtin.append, args := #[s, x], argTypes := #[K.st, 3] })
    (hs : a.eval s = .slice none 0 0) (n : Nat) (hx : a.eval x = .int .i64 (n : Int)) (hn : 0 < n) (hl : n ≤ 4194304)
    (hk : ∀ c w', K.Own W.heap.size w' (.slice (some ⟨W.heap.size, 0, none⟩) 0 c) [] → n ≤ c → Below W.heap.size W w' → wpList Try.prog ops Q rest (a.put o.dst (.slice (some ⟨W.heap.size, 0, none⟩) n c)) w') :
    wpList Try.prog ops Q (o :: rest) a W := by
  obtain ⟨i0, z0, hin, hz0, hz1, hz2, hz3⟩ := hK.info
  have hr := run_append_zeros (P := Try.prog) W K.st o.type K.ty 3 .i64 i0 z0 hK.und Try.underlying3 hin hz0 n hn (by rw [hz1]; exact hK.pos) hl hz3
  have hge := grownCap_ge W n 0 K.ty
  refine wpList_plain hg fun K' hK' => ?_
  unfold Oper.wp execOp
  simp only [hop, resolve, invoke, builtin, Sem.run_bind, Sem.run_pure, Result.andThen_ok, List.map_toArray, List.map_cons, List.map_nil, hs, hx, hr]
  refine hK' _ _ (hk _ _ ?_ hge ?_)
  · refine ⟨by simp [Kind.flat], .inr ⟨W.heap.size, grownCap W n 0 K.ty, _, rfl, Nat.le_refl _, heap_alloc_new W.drew _, Nat.zero_le _, grownCap_le_maxLen W n 0 K.ty (by unfold maxLen; omega), ?_, by simp [Kind.flat]⟩⟩
    simp only [Array.size_append, size_zeroCells, hz2, ← Nat.add_mul]
    congr 1
    omega
  · exact (Below.refl _ _).drew.alloc (Nat.le_refl _) _
end
set_option maxRecDepth 10000 in
set_option maxHeartbeats 4000000 in
theorem growW_any (n : Nat) (w : World) (hl : n ≤ 4194304) :
    Calls Try.prog 67 #[.slice none 0 0, .int .i64 (n : Int)] w fun e w' => (∃ v, e = .returned v ∧ kW.Own w.heap.size w' v []) ∧ Below w.heap.size w w' := by
  by_cases h0 : n = 0
  · subst h0
    go_enter Try.func67, Try.ntmps67
    go_wp2
    go_ret
    exact ⟨⟨_, rfl, Kind.Own.nil _ _ _⟩, Below.refl _ _⟩
  · have hn : 0 < n := by omega
    have h1 : decide ((0 : Int) < (n : Int)) = true := by simp; omega
    have h2 : decide ((n : Int) < 0) = false := by simp
    clear h0
    go_enter Try.func67, Try.ntmps67
    go_wp2_with (at_builtin; refine Kind.zeros kW_ok w rfl (.tmp 20) (.tmp 21) rfl rfl n rfl hn hl ?_; intro c w' hO hc hB; have HO := hid hO; clear hO)
    go_ret
    exact ⟨⟨_, rfl, HO.out⟩, hB⟩
/-- The first m of two rows, joined. -/
def cat2 (l1 l2 : List (Int × Int × Int)) (m : Nat) : List (Int × Int × Int) := ([l1, l2].take m).flatten
theorem cat2_two (l1 l2 : List (Int × Int × Int)) : cat2 l1 l2 2 = l1 ++ l2 := by simp [cat2]
theorem run_append_none2 {P : Program} {w : World} (base : Nat) (t ty e : TypeId) (i : TypeInfo) (size c : Nat) (ht : P.underlying t = some (.slice e)) (hi : P.info? e = some i) (v : Value) (n : Nat) (xs : List Value) (hown : w.ownsRow base e size v n xs) :
    (Builtin.append_ #[t, t] ty #[v, .slice none 0 c]).run P w = .ok v w := by
  rcases hown.2 with ⟨rfl, rfl⟩ | ⟨g, cap, cur, rfl, _, _, hnc, _⟩
  · simp [Builtin.append_, run_underlying ht, sizeOf, typeInfo, hi, Builtin.lenOf, Builtin.firstCells]
  · simp [Builtin.append_, run_underlying ht, sizeOf, typeInfo, hi, Builtin.lenOf, Builtin.firstCells, hnc, storeCells]
theorem Kind.app2 {α : Type} {K : Kind α} [Inhabited α] (hK : K.Ok) {ops : Array Oper} {rest : List Oper} {o : Oper} {a : Act} {Q : Exit → Act → World → Prop} (W : World) (hg : o.guard = none) (s x : Operand) (hop : o.op = Op.call { callee := Callee.builtin Builtin.append, args := #[s, x], argTypes := #[K.st, K.st] })
    (lo : Nat) (v : Value) (xs : List α) (hs : a.eval s = v) (hown : K.Own lo W v xs) (hlo : lo ≤ W.heap.size)
    (ao : Option Addr) (ys : List α) (m c : Nat) (hx : a.eval x = .slice ao m c) (hm : ys.length = m) (n : Nat) (hz : K.In n W ao ys) (hl : xs.length + ys.length ≤ 4194304)
    (hk : ∀ v' w', K.Own lo w' v' (xs ++ ys) → Below lo W w' → W.grownBy w' v.ownBlock → (v ≠ .slice none 0 0 → v' ≠ .slice none 0 0) → wpList Try.prog ops Q rest (a.put o.dst v') w') :
    wpList Try.prog ops Q (o :: rest) a W := by
  obtain ⟨i0, z0, hin, hz0, hz1, hz2, hz3⟩ := hK.info
  cases ao with
  | none =>
    have hy : ys = [] := by rcases hz with h | ⟨b, off, e, _⟩; exact h; cases e
    subst hy
    subst hm
    have hrun := run_append_none2 (P := Try.prog) (w := W) lo K.st o.type K.ty i0 K.sz c hK.und hin v xs.length (K.flat xs) hown
    refine wpList_plain hg fun K' hK' => ?_
    unfold Oper.wp
    simp [execOp, hop, resolve, invoke, builtin, hs, hx, hrun, Result.andThen]
    exact hK' _ _ (hk v W (by simpa using hown) (Below.refl _ _) ⟨rfl, rfl, rfl, Nat.le_refl _, fun _ _ _ => rfl⟩ id)
  | some ad =>
    subst hm
    refine wpList_append_own W hg s x K.st hop lo K.ty i0 z0 K.sz i0.bytes hK.und hin hz0 hz1 rfl hz2 hK.pos v xs.length (K.flat xs) hs hown ad ys.length c (K.flat ys) hx (K.flat_len ys) hz.src (K.flat_one ys) (by unfold maxLen; omega) ?_ hlo ?_
    · have : (xs.length + ys.length) * i0.bytes ≤ 4194304 * 4096 := Nat.mul_le_mul hl hz3
      omega
    · intro v' w' ho hgr hnil
      refine hk v' w' ?_ (hown.belowG hgr hlo) hgr fun hv e => hv (hnil.1 e).1
      unfold Kind.Own
      rw [K.flat_app, List.length_append]; exact ho
set_option maxRecDepth 10000 in
set_option maxHeartbeats 8000000 in
theorem concatW_any (p : Nat) (o1 : Option Addr) (c1 : Nat) (l1 : List (Int × Int × Int)) (o2 : Option Addr) (c2 : Nat) (l2 : List (Int × Int × Int)) (w : World) (h1 : l1.length ≤ 1048576) (h2 : l2.length ≤ 1048576) (hz1 : kW.In w.heap.size w o1 l1) (hz2 : kW.In w.heap.size w o2 l2) (hp : Bx w p [.slice o1 l1.length c1, .slice o2 l2.length c2]) :
    Calls Try.prog 59 #[.slice (some ⟨p, 0, none⟩) 2 2] w fun e w' => (∃ v, e = .returned v ∧ kW.Own w.heap.size w' v (l1 ++ l2)) ∧ Below w.heap.size w w' := by
  have P0 := hid hp
  clear hp
  have hpick : ∀ m, m < 2 → ∃ lo lc l, w.cell? ⟨p, m, none⟩ = some (.slice lo l.length lc) ∧ l.length ≤ 1048576 ∧ kW.In w.heap.size w lo l ∧ cat2 l1 l2 (m + 1) = cat2 l1 l2 m ++ l ∧ (cat2 l1 l2 m).length ≤ 1048576 := by
    intro m hm
    rcases (show m = 0 ∨ m = 1 from by omega) with rfl | rfl
    · exact ⟨o1, c1, l1, P0.out.c 0 rfl, h1, hz1, by simp [cat2], by simp [cat2]⟩
    · exact ⟨o2, c2, l2, P0.out.c 1 rfl, h2, hz2, by simp [cat2], by simpa [cat2] using h1⟩
  have HP := hid hpick
  have hpz := P0.out.size
  clear hpick hz1 hz2
  go_enter Try.func59, Try.ntmps59
  go_wp2
  go_loop [3, 11] (fun u i => ∃ m : Nat, m ≤ 2 ∧ i = .int .i64 m ∧ u = .int .i64 ((cat2 l1 l2 m).length : Int)) (fun _ i => 2 - (intOf i).toNat)
  case atStart => exact ⟨0, by omega, rfl, rfl⟩
  case round =>
    obtain ⟨m, hm, rfl, rfl⟩ := hrel
    by_cases hm2 : m < 2
    · obtain ⟨lo, lc, l, hcl, hll, hzl, hsu, hcm⟩ := HP.out m hm2
      have hm2' : decide ((m : Int) < 2) = true := by simp; omega
      have HSU : Hid ((cat2 l1 l2 (m + 1)).length = (cat2 l1 l2 m).length + l.length) := by rw [Hid, hsu, List.length_append]
      obtain ⟨k, hk⟩ : ∃ k, k = (cat2 l1 l2 m).length := ⟨_, rfl⟩
      rw [← hk] at HSU hcm ⊢
      have hneg : decide ((k : Int) + (l.length : Int) < 0) = false := by simp; omega
      clear hsu hk hzl
      go_wp2
      go_round
      case rel => exact ⟨m + 1, by omega, by go_num, by rw [HSU.out]; go_num⟩
      case measure => simp [intOf]; omega
    · obtain rfl : m = 2 := by omega
      have hn : (cat2 l1 l2 2).length ≤ 4194304 := by rw [cat2_two, List.length_append]; omega
      obtain ⟨k, hk⟩ : ∃ k, k = (cat2 l1 l2 2).length := ⟨_, rfl⟩
      rw [← hk] at hn ⊢
      clear hk
      go_wp2_with fail
      refine (growW_any k w hn).mono ?_
      rintro e w1 ⟨⟨v, rfl, hO⟩, hb1⟩
      have O1 := hid hO
      have hs1 := hb1.size
      clear hO
      go_wp2
      go_loopw [6, 27] (fun u i wr => ∃ (m : Nat) (v : Value), v = u ∧ m ≤ 2 ∧ i = .int .i64 m ∧ Hid (kW.Own w.heap.size wr v (cat2 l1 l2 m)) ∧ Below w.heap.size w wr) (fun _ i _ => 2 - (intOf i).toNat)
      case atStart => exact ⟨0, _, rfl, by omega, rfl, O1, hb1⟩
      case round =>
        obtain ⟨m, v, rfl, hm, rfl, hO, hB⟩ := hrel
        by_cases hm2 : m < 2
        · obtain ⟨lo, lc, l, hcl, hll, hzl, hsu, hcm⟩ := HP.out m hm2
          have hm2' : decide ((m : Int) < 2) = true := by simp; omega
          have HSU := hid hsu
          have hcl' := (hB.cell (p := ⟨p, m, none⟩) hpz).trans hcl
          have HZ := hid (hzl.below hB)
          have hBs := hB.size
          clear hsu hcl hzl
          go_wp2_with (at_builtin; refine Kind.app2 kW_ok wr rfl (.tmp 31) (.tmp 32) rfl w.heap.size v (cat2 l1 l2 m) rfl hO.out hBs lo l l.length lc rfl rfl _ HZ.out (by omega) ?_; intro v' w' hO' hB' hG' hn'; have hB2 : Below w.heap.size w w' := hB.trans hB'; have HO' : Hid (kW.Own w.heap.size w' v' (cat2 l1 l2 (m + 1))) := (by rw [Hid, HSU.out]; exact hO'); clear hO' hB' hG' hn')
          go_roundw
          case rel => exact ⟨m + 1, v', rfl, by omega, by go_num, HO', hB2⟩
          case measure => simp [intOf]; omega
        · obtain rfl : m = 2 := by omega
          rw [cat2_two] at hO
          go_wp2
          go_ret
          exact ⟨⟨_, rfl, hO.out⟩, hB⟩
/-- A row of waiters of its own is answered. -/
def AnsWt (w : World) (xs : List (Int × Int × Int)) (e : Ending) (w' : World) : Prop :=
  (∃ o c, e = .returned (.slice o xs.length c) ∧ (o = none → c = 0) ∧ kW.Fresh w.heap.size w'.heap.size w' o c xs) ∧ Below w.heap.size w w'
set_option maxHeartbeats 2000000 in
theorem waitersAt_any (kap : Int) (cl : Bool) (bo : Option Addr) (bc : Nat) (b : List Int) (so : Option Addr) (sc : Nat) (s : List (Int × Int × Int)) (ro : Option Addr) (rc : Nat) (r : List (Int × Int × Int)) (w : World) (hls : s.length ≤ 1048576) (hlr : r.length ≤ 1048576) (hz : InChan w.heap.size w bo b so s ro r) :
    Calls Try.prog 40 #[.agg #[.int .i64 kap, .bool cl, .slice bo b.length bc, .slice so s.length sc, .slice ro r.length rc]] w (AnsWt w (s ++ r)) := by
  obtain ⟨V, hV⟩ : ∃ V, V = (w.alloc (.cells #[.int .i64 kap, .bool cl, .slice bo b.length bc, .slice so s.length sc, .slice ro r.length rc] 45)).alloc (.cells #[.slice so s.length sc, .slice ro r.length rc] 43) := ⟨_, rfl⟩
  have hB0 : Below w.heap.size w V := by rw [hV]; exact below2 _ _ _
  have XC : Hid (Bx V (w.heap.size + 1) [.slice so s.length sc, .slice ro r.length rc]) := by rw [hV]; exact Bx.new [.slice so s.length sc, .slice ro r.length rc] _ (by simp)
  have HV := hid hV
  clear hV
  go_enter Try.func40, Try.ntmps40
  go_wp2_with fail
  rw [← HV.out]
  refine (concatW_any (w.heap.size + 1) so sc s ro rc r V hls hlr (hz.2.1.later hB0) (hz.2.2.later hB0) XC.out).mono ?_
  rintro e w1 ⟨⟨v, rfl, hO⟩, hb1⟩
  have hB1 := hB0.trans (hb1.mono hB0.size)
  obtain ⟨q, hq⟩ : ∃ q, q = s ++ r := ⟨_, rfl⟩
  rw [← hq] at hO
  have HQE := hid hq
  obtain ⟨qo, qc, rfl, hq0, hF⟩ := hO.fresh
  have HF := hid (hF.wide (lo' := w.heap.size) hB0.size (Nat.le_refl _))
  have HQ := hid hq0
  clear hF hO hq0 hb1 hq
  go_wp2
  go_ret
  rw [← HQE.out]
  exact ⟨⟨_, _, rfl, HQ.out, HF.out⟩, hB1⟩
end Go.Proofs.Ytdjdbcfcccbhpaa
