
/- The law's callees with their answers as variables; an append behind a guard. No conditions but those written. -/
import Derived.Test.YtpbgkkemaioidaaXm
import Derived.Test.YtpbgkkemaioidaaPn
import Derived.Test.YtpbgkkemaioidaaOJc
import Derived.Test.YtpbgkkemaioidaaOJd
import Derived.Test.YtpbgkkemaioidaaOCe
namespace Go.Proofs.Ytpbgkkemaioidaa
open Go.RowKit

/-- The number of some bytes. -/
def numI (bs : List Int) : Int := bs.foldl (fun n x => (31 * n + x) % 1000003) 0
theorem numI_take (bs : List Int) (k : Nat) (h : k < bs.length) : numI (bs.take (k + 1)) = (31 * numI (bs.take k) + (bs[k]?.getD 0)) % 1000003 := by
  unfold numI
  rw [List.take_add_one, List.foldl_append]
  simp [h]
theorem numI_in : ∀ (bs : List Int), 0 ≤ numI bs ∧ numI bs < 1000003 := by
  intro bs
  rcases List.eq_nil_or_concat bs with rfl | ⟨l, x, rfl⟩
  · simp [numI]
  · unfold numI
    rw [List.concat_eq_append, List.foldl_append]
    simp only [List.foldl_cons, List.foldl_nil]
    exact ⟨Int.emod_nonneg _ (by omega), Int.emod_lt_of_pos _ (by omega)⟩
theorem numberOf_is (co : Option Addr) (cap : Nat) (bs : List Int) (n : Nat) (w : World) (hn : n ≤ w.heap.size) (hb : BytesIn n w co bs) (hl : bs.length ≤ 9223372036854775807) :
    Calls Try.prog 8 #[.slice co bs.length cap] w fun e w' => e = .returned (.int .i64 (numI bs)) ∧ w' = w := by
  have _hn := hn
  go_enter Try.func8, Try.ntmps8
  go_wp2
  go_loop [3, 8] (fun v i => ∃ (k : Nat) (z : Int), k ≤ bs.length ∧ i = .int .i64 k ∧ v = .int .i64 z ∧ Hid (z = numI (bs.take k))) (fun _ i => bs.length - (intOf i).toNat)
  case atStart => exact ⟨0, 0, Nat.zero_le _, rfl, rfl, by simp [Hid, numI]⟩
  case round =>
    obtain ⟨k, z, hk, rfl, rfl, HZ⟩ := hrel
    have hz0 : 0 ≤ z := by rw [HZ.out]; exact (numI_in _).1
    have hz1 : z < 1000003 := by rw [HZ.out]; exact (numI_in _).2
    by_cases hlt : k < bs.length
    · rcases hb with hb | ⟨b, off, rfl, hbn, hc⟩
      · subst hb; simp at hlt
      obtain ⟨d0, d1, d2⟩ := hc k hlt
      have HT := hid (numI_take bs k hlt)
      obtain ⟨y, hy⟩ : ∃ y, bs[k]?.getD 0 = y := ⟨_, rfl⟩
      rw [hy] at d0 d1 d2 HT
      rw [← HZ.out] at HT
      have hwy : wrap64 y = y := by unfold wrap64; omega
      have hm1 : (31 * z + y).tmod 1000003 = (31 * z + y) % 1000003 := Int.tmod_eq_emod_of_nonneg (by omega)
      clear hc hy
      go_wp2
      go_round
      case rel => exact ⟨k + 1, (31 * z + y) % 1000003, by omega, by go_num, by first | rfl | (rw [hm1]), HT.out.symm⟩
      case measure => simp [intOf]; omega
    · obtain rfl : k = bs.length := by omega
      rw [List.take_length] at HZ
      go_wp2
      go_ret
      exact ⟨by rw [HZ.out]; rfl, rfl⟩
set_option maxHeartbeats 2000000 in
theorem sameInts_same (ao bo : Option Addr) (cap cap' : Nat) (zs : List Int) (w : World) (hl : zs.length ≤ 1048576) (hz : kI.In w.heap.size w ao zs) (hz' : kI.In w.heap.size w bo zs) :
    Calls Try.prog 7 #[.slice ao zs.length cap, .slice bo zs.length cap'] w fun e w' => e = .returned (.bool true) ∧ Below w.heap.size w w' := by
  have hne : ((zs.length : Int) != (zs.length : Int)) = false := by simp
  go_enter Try.func7, Try.ntmps7
  go_wp2
  go_loopw [13] (fun i wr => ∃ k : Nat, k ≤ zs.length ∧ i = .int .i64 k ∧ Below w.heap.size w wr) (fun i _ => zs.length - (intOf i).toNat)
  case atStart => exact ⟨0, Nat.zero_le _, rfl, Below.refl _ _⟩
  case round =>
    obtain ⟨k, hk, rfl, hnx⟩ := hrel
    by_cases hlt : k < zs.length
    · obtain ⟨b, off, rfl, hb, hc⟩ := ints_at hz hlt
      obtain ⟨b', off', rfl, hb', hc'⟩ := ints_at hz' hlt
      have hck := (hnx.cell (p := ⟨b, off + k, none⟩) hb).trans (hc k hlt)
      have hck' := (hnx.cell (p := ⟨b', off' + k, none⟩) hb').trans (hc' k hlt)
      clear hc hz hc' hz'
      obtain ⟨x, hx⟩ : ∃ x, x = el zs k := ⟨_, rfl⟩
      rw [← hx] at hck hck'
      clear hx
      have hxx : (x != x) = false := by simp
      go_wp2
      go_quiet (fail)
      go_wp2
      go_roundw
      case rel => exact ⟨k + 1, by omega, by go_num, below_draws hnx _⟩
      case measure => simp [intOf]; omega
    · obtain rfl : k = zs.length := by omega
      go_wp2
      go_ret
      exact ⟨rfl, hnx⟩
theorem run_append_none2 {P : Program} {w : World} (base : Nat) (t ty e : TypeId) (i : TypeInfo) (size c : Nat) (ht : P.underlying t = some (.slice e)) (hi : P.info? e = some i) (v : Value) (n : Nat) (xs : List Value) (hown : w.ownsRow base e size v n xs) :
    (Builtin.append_ #[t, t] ty #[v, .slice none 0 c]).run P w = .ok v w := by
  rcases hown.2 with ⟨rfl, rfl⟩ | ⟨g, cap, cur, rfl, _, _, hnc, _⟩
  · simp [Builtin.append_, run_underlying ht, sizeOf, typeInfo, hi, Builtin.lenOf, Builtin.firstCells]
  · simp [Builtin.append_, run_underlying ht, sizeOf, typeInfo, hi, Builtin.lenOf, Builtin.firstCells, hnc, storeCells]
/-- Elements are put behind a row of its own, behind a guard that lets them. -/
theorem Kind.appG {α : Type} {K : Kind α} [Inhabited α] (hK : K.Ok) {ops : Array Oper} {rest : List Oper} {o : Oper} {a : Act} {Q : Exit → Act → World → Prop} (W : World) (hw : Region.wanted o (yielded ops a.tmps) = true) (s x : Operand) (hop : o.op = Op.call { callee := Callee.builtin Builtin.append, args := #[s, x], argTypes := #[K.st, K.st] })
    (lo : Nat) (v : Value) (xs : List α) (hs : a.eval s = v) (hown : K.Own lo W v xs) (hlo : lo ≤ W.heap.size)
    (ao : Option Addr) (ys : List α) (m c : Nat) (hx : a.eval x = .slice ao m c) (hm : ys.length = m) (n : Nat) (hz : K.In n W ao ys) (hl : xs.length + ys.length ≤ 4194304)
    (hk : ∀ ao' c' w', K.Own lo w' (.slice ao' (xs ++ ys).length c') (xs ++ ys) → Below lo W w' → wpList Try.prog ops Q rest (a.put o.dst (.slice ao' (xs ++ ys).length c')) w') :
    wpList Try.prog ops Q (o :: rest) a W := by
  refine wpList_step fun K' hK' => ?_
  rw [if_pos hw]
  cases ao with
  | none =>
    obtain ⟨i0, z0, hin, hz0, hz1, hz2, hz3⟩ := hK.info
    have hy : ys = [] := by rcases hz with h | ⟨b, off, e, _⟩; exact h; cases e
    subst hy
    subst hm
    have hrun := run_append_none2 (P := Try.prog) (w := W) lo K.st o.type K.ty i0 K.sz c hK.und hin v xs.length (K.flat xs) hown
    obtain ⟨ao', c', rfl, hO⟩ := hown.as
    unfold Oper.wp
    simp [execOp, hop, resolve, invoke, builtin, hs, hx, hrun, Result.andThen]
    refine hK' _ _ ?_
    have h := hk ao' c' W (by simpa using hO) (Below.refl _ _)
    simpa using h
  | some ad =>
    refine Kind.appW hK W s x hop lo v xs hs hown hlo (some ad) ys m c hx hm (fun e => by cases e) n hz hl ?_
    intro v' w' hO hB _ _
    obtain ⟨ao', c', rfl, hO2⟩ := hO.as
    exact hK' _ _ (hk ao' c' w' hO2 hB)
theorem in_T {lo hi : Nat} {W : World} {ta : Option Addr} {tc : Nat} {ts : List Old.T3} (h : Old.FreshC lo hi W ta tc ts) : kT.In W.heap.size W ta ts := by
  rcases Nat.eq_zero_or_pos ts.length with e | e
  · exact .inl (List.length_eq_zero_iff.1 e)
  · exact (old_T h e).in
theorem in_I {lo hi : Nat} {W : World} {ta : Option Addr} {tc : Nat} {q : List Int} (h : Old.FreshI lo hi W ta tc q) : kI.In W.heap.size W ta q := by
  rcases Nat.eq_zero_or_pos q.length with e | e
  · exact .inl (List.length_eq_zero_iff.1 e)
  · rcases h with rfl | ⟨g, rfl, hg, ho⟩
    · simp at e
    · have ef : q.map (Value.int .i64) = kI.flat q := by
        refine kI.flat_of _ _ (by simp [kI]) fun j hj i hi => ?_
        have hi' : i < 1 := hi
        obtain rfl : i = 0 := by omega
        show (q.map (Value.int .i64))[j * 1 + 0]? = some (.int .i64 (el q j))
        simp [el, hj]
      rw [ef] at ho
      have hR : kI.RW lo hi W (some ⟨g, 0, none⟩) tc q := ⟨ho, fun g' o e => by cases e; exact hg⟩
      exact hR.in
theorem implAdv_as (now sq : Int) (ta : Option Addr) (tc : Nat) (ts : List Old.T3) (t : Int) (N S : Int) (L : List Old.T3) (l : List Int) (cd : Int) (w : World) (ht : ts.length ≤ 1048576) (hcap : ts.length ≤ tc) (hz : kT.In w.heap.size w ta ts) (h : Old.advR now sq ts t = (N, S, L, l, cd)) :
    Calls Try.prog 5 #[.agg #[.int .i64 now, .int .i64 sq, .slice ta ts.length tc], .int .i64 t] w fun e w' => (∃ o c o2 c2, e = .returned (.tuple #[.agg #[.int .i64 N, .int .i64 S, .slice o L.length c], .slice o2 l.length c2, .int .i64 cd]) ∧ L.length ≤ c ∧ kT.In w'.heap.size w' o L ∧ kI.In w'.heap.size w' o2 l) ∧ Below w.heap.size w w' :=
  (Old.implAdv_any now sq ta tc ts t w ht hcap (timers_old hz)).mono fun e w' hh => by
    rw [h] at hh
    obtain ⟨⟨o, c, o2, c2, e, f1, f2⟩, hb⟩ := hh
    exact ⟨⟨o, c, o2, c2, e, f1.cap, in_T f1, in_I f2⟩, hb⟩
theorem specAdv_as (now sq : Int) (ta : Option Addr) (tc : Nat) (ts : List Old.T3) (t : Int) (N S : Int) (L : List Old.T3) (l : List Int) (cd : Int) (w : World) (ht : ts.length ≤ 1048576) (hcap : ts.length ≤ tc) (hz : kT.In w.heap.size w ta ts) (hwf : ta = none → tc = 0) (h : Old.advR now sq ts t = (N, S, L, l, cd)) :
    Calls Try.prog 6 #[.agg #[.int .i64 now, .int .i64 sq, .slice ta ts.length tc], .int .i64 t] w fun e w' => (∃ o c o2 c2, e = .returned (.tuple #[.agg #[.int .i64 N, .int .i64 S, .slice o L.length c], .slice o2 l.length c2, .int .i64 cd]) ∧ L.length ≤ c ∧ kT.In w'.heap.size w' o L ∧ kI.In w'.heap.size w' o2 l) ∧ Below w.heap.size w w' :=
  (Old.specAdv_any now sq ta tc ts t w hwf ht hcap (timers_old hz)).mono fun e w' hh => by
    rw [h] at hh
    obtain ⟨⟨o, c, o2, c2, e, f1, f2⟩, hb⟩ := hh
    exact ⟨⟨o, c, o2, c2, e, f1.cap, in_T f1, in_I f2⟩, hb⟩
theorem implNext_as (now sq : Int) (ta : Option Addr) (tc : Nat) (ts : List Old.T3) (z : Int) (b : Bool) (w : World) (ht : ts.length ≤ 1048576) (hcap : ts.length ≤ tc) (hz : kT.In w.heap.size w ta ts) (h1 : Old.nextI now sq ts = z) (h2 : Old.nextB now sq ts = b) :
    Calls Try.prog 9 #[.agg #[.int .i64 now, .int .i64 sq, .slice ta ts.length tc]] w fun e w' => e = .returned (.tuple #[.int .i64 z, .bool b]) ∧ Below w.heap.size w w' :=
  (Old.implNext_any now sq ta tc ts w ht hcap (timers_old hz)).mono fun e w' hh => by rw [h1, h2] at hh; exact hh
theorem next_late {t sq : Int} {L : List Old.T3} (hx : ∀ x r, L = x :: r → t < x.2.1) (hb : Old.nextB t sq L = true) : t < Old.nextI t sq L := by
  unfold Old.nextB at hb
  unfold Old.nextI
  cases L with
  | nil => simp at hb
  | cons x r =>
    have := hx x r rfl
    simp [Old.t3] at hb ⊢
    simpa [hb] using this
theorem mid_in {now t z : Int} (h0 : 0 ≤ now) (h1 : now < t) (h2 : t ≤ 9223372036854775807) (hz : 0 ≤ z) : now ≤ wrap64 (now + z.tmod (t - now)) ∧ wrap64 (now + z.tmod (t - now)) ≤ t := by
  rw [Int.tmod_eq_emod_of_nonneg hz]
  have e1 := Int.emod_nonneg z (b := t - now) (by omega)
  have e2 := Int.emod_lt_of_pos z (b := t - now) (by omega)
  unfold wrap64
  omega
theorem adv_short {now sq t : Int} {ts : List Old.T3} (h : ts.length ≤ 31) : (Old.advR now sq ts t).2.2.1.length ≤ 31 ∧ (Old.advR now sq ts t).2.2.2.1.length ≤ 31 := by
  unfold Old.advR
  split
  · split
    · exact ⟨h, by simp⟩
    · simp [Old.idsT]; omega
  · simp
end Go.Proofs.Ytpbgkkemaioidaa
