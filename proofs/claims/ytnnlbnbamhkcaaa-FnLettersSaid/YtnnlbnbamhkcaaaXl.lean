
/- GiveBackLetters on a box whose rows may be nil with whatever room. No conditions but those written. -/
import Derived.Test.YtnnlbnbamhkcaaaEh
import Derived.Test.YtnnlbnbamhkcaaaXk
namespace Go.Proofs.Ytnnlbnbamhkcaaa
open Go.RowKit

theorem run_append_none2 {P : Program} {w : World} (base : Nat) (t ty e : TypeId) (i : TypeInfo) (size c : Nat) (ht : P.underlying t = some (.slice e)) (hi : P.info? e = some i) (v : Value) (n : Nat) (xs : List Value) (hown : w.ownsRow base e size v n xs) :
    (Builtin.append_ #[t, t] ty #[v, .slice none 0 c]).run P w = .ok v w := by
  rcases hown.2 with ⟨rfl, rfl⟩ | ⟨g, cap, cur, rfl, _, _, hnc, _⟩
  · simp [Builtin.append_, run_underlying ht, sizeOf, typeInfo, hi, Builtin.lenOf, Builtin.firstCells]
  · simp [Builtin.append_, run_underlying ht, sizeOf, typeInfo, hi, Builtin.lenOf, Builtin.firstCells, hnc, storeCells]
theorem Kind.app2 {α : Type} {K : Kind α} [Inhabited α] (hK : K.Ok) {ops : Array Oper} {rest : List Oper} {o : Oper} {a : Act} {Q : Exit → Act → World → Prop} (W : World) (hg : o.guard = none) (s x : Operand) (hop : o.op = Op.call { callee := Callee.builtin Builtin.append, args := #[s, x], argTypes := #[K.st, K.st] })
    (lo : Nat) (v : Value) (xs : List α) (hs : a.eval s = v) (hown : K.Own lo W v xs) (hlo : lo ≤ W.heap.size)
    (ao : Option Addr) (ys : List α) (m c : Nat) (hx : a.eval x = .slice ao m c) (hm : ys.length = m) (n : Nat) (hz : K.In n W ao ys) (hl : xs.length + ys.length ≤ 4194304)
    (hk : ∀ v' w', K.Own lo w' v' (xs ++ ys) → Below lo W w' → W.grownBy w' v.ownBlock → (v ≠ .slice none 0 0 → v' ≠ .slice none 0 0) → wpList Try.prog ops Q rest (a.put o.dst v') w') :
    wpList Try.prog ops Q (o :: rest) a W := by
  obtain ⟨i0, z0, hin, hz0, hz1, hz2, hz3⟩ := hK.info
  cases ao with
  | none =>
    have hy : ys = [] := by rcases hz with h | ⟨b, off, e, _⟩; exact h; cases e
    subst hy
    subst hm
    have hrun := run_append_none2 (P := Try.prog) (w := W) lo K.st o.type K.ty i0 K.sz c hK.und hin v xs.length (K.flat xs) hown
    refine wpList_plain hg fun K' hK' => ?_
    unfold Oper.wp
    simp [execOp, hop, resolve, invoke, builtin, hs, hx, hrun, Result.andThen]
    exact hK' _ _ (hk v W (by simpa using hown) (Below.refl _ _) ⟨rfl, rfl, rfl, Nat.le_refl _, fun _ _ _ => rfl⟩ id)
  | some ad =>
    subst hm
    refine wpList_append_own W hg s x K.st hop lo K.ty i0 z0 K.sz i0.bytes hK.und hin hz0 hz1 rfl hz2 hK.pos v xs.length (K.flat xs) hs hown ad ys.length c (K.flat ys) hx (K.flat_len ys) hz.src (K.flat_one ys) (by unfold maxLen; omega) ?_ hlo ?_
    · have : (xs.length + ys.length) * i0.bytes ≤ 4194304 * 4096 := Nat.mul_le_mul hl hz3
      omega
    · intro v' w' ho hgr hnil
      refine hk v' w' ?_ (hown.belowG hgr hlo) hgr fun hv e => hv (hnil.1 e).1
      unfold Kind.Own
      rw [K.flat_app, List.length_append]; exact ho
set_option maxRecDepth 10000 in
set_option maxHeartbeats 8000000 in
theorem concatL2_any (p : Nat) (o1 : Option Addr) (c1 : Nat) (l1 : List (Int × Int × Int)) (o2 : Option Addr) (c2 : Nat) (l2 : List (Int × Int × Int)) (w : World) (h1 : l1.length ≤ 1048576) (h2 : l2.length ≤ 1048576) (hz1 : kL.In w.heap.size w o1 l1) (hz2 : kL.In w.heap.size w o2 l2) (hp : Bx w p [.slice o1 l1.length c1, .slice o2 l2.length c2]) :
    Calls Try.prog 19 #[.slice (some ⟨p, 0, none⟩) 2 2] w fun e w' => (∃ v, e = .returned v ∧ kL.Own w.heap.size w' v (l1 ++ l2)) ∧ Below w.heap.size w w' := by
  have P0 := hid hp
  clear hp
  have hpick : ∀ m, m < 2 → ∃ lo lc l, w.cell? ⟨p, m, none⟩ = some (.slice lo l.length lc) ∧ l.length ≤ 1048576 ∧ kL.In w.heap.size w lo l ∧ cat2 l1 l2 (m + 1) = cat2 l1 l2 m ++ l ∧ (cat2 l1 l2 m).length ≤ 1048576 := by
    intro m hm
    rcases (show m = 0 ∨ m = 1 from by omega) with rfl | rfl
    · exact ⟨o1, c1, l1, P0.out.c 0 rfl, h1, hz1, by simp [cat2], by simp [cat2]⟩
    · exact ⟨o2, c2, l2, P0.out.c 1 rfl, h2, hz2, by simp [cat2], by simpa [cat2] using h1⟩
  have HP := hid hpick
  have hpz := P0.out.size
  clear hpick hz1 hz2
  go_enter Try.func19, Try.ntmps19
  go_wp2
  go_loop [3, 11] (fun u i => ∃ m : Nat, m ≤ 2 ∧ i = .int .i64 m ∧ u = .int .i64 ((cat2 l1 l2 m).length : Int)) (fun _ i => 2 - (intOf i).toNat)
  case atStart => exact ⟨0, by omega, rfl, rfl⟩
  case round =>
    obtain ⟨m, hm, rfl, rfl⟩ := hrel
    by_cases hm2 : m < 2
    · obtain ⟨lo, lc, l, hcl, hll, hzl, hsu, hcm⟩ := HP.out m hm2
      have hm2' : decide ((m : Int) < 2) = true := by simp; omega
      have HSU : Hid ((cat2 l1 l2 (m + 1)).length = (cat2 l1 l2 m).length + l.length) := by rw [Hid, hsu, List.length_append]
      obtain ⟨k, hk⟩ : ∃ k, k = (cat2 l1 l2 m).length := ⟨_, rfl⟩
      rw [← hk] at HSU hcm ⊢
      have hneg : decide ((k : Int) + (l.length : Int) < 0) = false := by simp; omega
      clear hsu hk hzl
      go_wp2
      go_round
      case rel => exact ⟨m + 1, by omega, by go_num, by rw [HSU.out]; go_num⟩
      case measure => simp [intOf]; omega
    · obtain rfl : m = 2 := by omega
      have hn : (cat2 l1 l2 2).length ≤ 4194304 := by rw [cat2_two, List.length_append]; omega
      obtain ⟨k, hk⟩ : ∃ k, k = (cat2 l1 l2 2).length := ⟨_, rfl⟩
      rw [← hk] at hn ⊢
      clear hk
      go_wp2_with fail
      refine (growL_any k w hn).mono ?_
      rintro e w1 ⟨⟨v, rfl, hO⟩, hb1⟩
      have O1 := hid hO
      have hs1 := hb1.size
      clear hO
      go_wp2
      go_loopw [6, 27] (fun u i wr => ∃ (m : Nat) (v : Value), v = u ∧ m ≤ 2 ∧ i = .int .i64 m ∧ Hid (kL.Own w.heap.size wr v (cat2 l1 l2 m)) ∧ Below w.heap.size w wr) (fun _ i _ => 2 - (intOf i).toNat)
      case atStart => exact ⟨0, _, rfl, by omega, rfl, O1, hb1⟩
      case round =>
        obtain ⟨m, v, rfl, hm, rfl, hO, hB⟩ := hrel
        by_cases hm2 : m < 2
        · obtain ⟨lo, lc, l, hcl, hll, hzl, hsu, hcm⟩ := HP.out m hm2
          have hm2' : decide ((m : Int) < 2) = true := by simp; omega
          have HSU := hid hsu
          have hcl' := (hB.cell (p := ⟨p, m, none⟩) hpz).trans hcl
          have HZ := hid (hzl.below hB)
          have hBs := hB.size
          clear hsu hcl hzl
          go_wp2_with (at_builtin; refine Kind.app2 kL_ok wr rfl (.tmp 31) (.tmp 32) rfl w.heap.size v (cat2 l1 l2 m) rfl hO.out hBs lo l l.length lc rfl rfl _ HZ.out (by omega) ?_; intro v' w' hO' hB' hG' hn'; have hB2 : Below w.heap.size w w' := hB.trans hB'; have HO' : Hid (kL.Own w.heap.size w' v' (cat2 l1 l2 (m + 1))) := (by rw [Hid, HSU.out]; exact hO'); clear hO' hB' hG' hn')
          go_roundw
          case rel => exact ⟨m + 1, v', rfl, by omega, by go_num, HO', hB2⟩
          case measure => simp [intOf]; omega
        · obtain rfl : m = 2 := by omega
          rw [cat2_two] at hO
          go_wp2
          go_ret
          exact ⟨⟨_, rfl, hO.out⟩, hB⟩
theorem concatL2_as (p : Nat) (o1 : Option Addr) (c1 : Nat) (l1 : List (Int × Int × Int)) (o2 : Option Addr) (c2 : Nat) (l2 : List (Int × Int × Int)) (w : World) (h1 : l1.length ≤ 1048576) (h2 : l2.length ≤ 1048576) (hz1 : kL.In w.heap.size w o1 l1) (hz2 : kL.In w.heap.size w o2 l2) (hp : Bx w p [.slice o1 l1.length c1, .slice o2 l2.length c2]) (q : List (Int × Int × Int)) (hq : l1 ++ l2 = q) :
    Calls Try.prog 19 #[.slice (some ⟨p, 0, none⟩) 2 2] w fun e w' => (∃ v, e = .returned v ∧ kL.Own w.heap.size w' v q) ∧ Below w.heap.size w w' := by
  subst hq; exact concatL2_any p o1 c1 l1 o2 c2 l2 w h1 h2 hz1 hz2 hp
set_option maxRecDepth 10000 in
set_option maxHeartbeats 8000000 in
theorem implGive2_any (kap : Int) (cl : Bool) (bo : Option Addr) (bc : Nat) (b : List Int) (so : Option Addr) (sc : Nat) (s : List (Int × Int × Int)) (ro : Option Addr) (rc : Nat) (r : List (Int × Int × Int)) (w : World) (hlb : b.length ≤ 1048576) (hls : s.length ≤ 1048576) (hlr : r.length ≤ 1048576) (hz : InBox w.heap.size w bo b so s ro r) :
    Calls Try.prog 9 #[.agg #[.int .i64 kap, .bool cl, .slice bo b.length bc, .slice so s.length sc, .slice ro r.length rc]] w fun e w' => AnsN w (giveR kap cl b s r) e w' := by
  cases hg : goodX kap b s r
  · have HG : Hid (goodX kap b s r = false) := hg
    have HR : Hid (giveR kap cl b s r = (0, false, [], [], [], 1)) := giveR_bad hg
    clear hg
    obtain ⟨w0, hw0⟩ : ∃ w0, w0 = ((w.alloc (.cells #[.int .i64 kap, .bool cl, .slice bo b.length bc, .slice so s.length sc, .slice ro r.length rc] 26)).alloc (.cells #[.int .i64 0, .bool false, .slice none 0 0, .slice none 0 0, .slice none 0 0] 26)) := ⟨_, rfl⟩
    have hB0 : Below w.heap.size w w0 := by rw [hw0]; exact Below.allocS (Below.allocS (Below.refl _ _) _) _
    have XA0 : Hid (Bx w0 (w.heap.size) [.int .i64 kap, .bool cl, .slice bo b.length bc, .slice so s.length sc, .slice ro r.length rc]) := by rw [hw0]; exact Bx.alloc (Bx.new [.int .i64 kap, .bool cl, .slice bo b.length bc, .slice so s.length sc, .slice ro r.length rc] _ rfl) _
    have XR0 : Hid (Bx w0 (w.heap.size + 1) [.int .i64 0, .bool false, .slice none 0 0, .slice none 0 0, .slice none 0 0]) := by rw [hw0]; exact Bx.new [.int .i64 0, .bool false, .slice none 0 0, .slice none 0 0, .slice none 0 0] _ (by simp)
    have H0 : Hid (w0 = ((w.alloc (.cells #[.int .i64 kap, .bool cl, .slice bo b.length bc, .slice so s.length sc, .slice ro r.length rc] 26)).alloc (.cells #[.int .i64 0, .bool false, .slice none 0 0, .slice none 0 0, .slice none 0 0] 26))) := hw0
    have hs0 : w.heap.size + 1 + 1 ≤ w0.heap.size := by rw [hw0]; simp
    clear hw0
    go_enter Try.func9, Try.ntmps9
    go_wp2_with fail
    rw [← H0.out]
    refine (implGood_is kap cl bo bc b so sc s ro rc r w0 false hlb hls hlr (hz.later hB0) HG.out).mono ?_
    rintro e w1 ⟨rfl, hb1⟩
    have hB1 := hB0.trans (hb1.mono hB0.size)
    have hs1 : w.heap.size + 1 + 1 ≤ w1.heap.size := Nat.le_trans hs0 hb1.size
    have hz1 : w0.heap.size ≤ w1.heap.size := hb1.size
    have XA1 := hid (XA0.out.later hb1)
    have XR1 := hid (XR0.out.later hb1)
    clear XA0 XR0
    clear hb1
    have a0 := XA1.out.c 0 rfl
    have af0 := XA1.out.f 0 rfl
    have a1 := XA1.out.c 1 rfl
    have af1 := XA1.out.f 1 rfl
    have a2 := XA1.out.c 2 rfl
    have af2 := XA1.out.f 2 rfl
    have a3 := XA1.out.c 3 rfl
    have af3 := XA1.out.f 3 rfl
    have a4 := XA1.out.c 4 rfl
    have af4 := XA1.out.f 4 rfl
    have az := XA1.out.size
    have r0 := XR1.out.c 0 rfl
    have rf0 := XR1.out.f 0 rfl
    have r1 := XR1.out.c 1 rfl
    have rf1 := XR1.out.f 1 rfl
    have r2 := XR1.out.c 2 rfl
    have rf2 := XR1.out.f 2 rfl
    have r3 := XR1.out.c 3 rfl
    have rf3 := XR1.out.f 3 rfl
    have r4 := XR1.out.c 4 rfl
    have rf4 := XR1.out.f 4 rfl
    have rz := XR1.out.size
    go_wp2
    refine bodyPost_ret (v := .tuple #[.agg #[.int .i64 0, .bool false, .slice none 0 0, .slice none 0 0, .slice none 0 0], .int .i64 1]) (by simp [results, Try.results9, go_sem, r0, r1, r2, r3, r4]) rfl ?_
    rw [HR.out]
    exact ⟨⟨none, 0, none, 0, none, 0, rfl, frBox_nil _ _ _⟩, (((((hB1.setCell (p := ⟨w.heap.size + 1, 0, none⟩) (by dsimp only; omega) _).setCell (p := ⟨w.heap.size + 1, 1, none⟩) (by dsimp only; omega) _).setCell (p := ⟨w.heap.size + 1, 2, none⟩) (by dsimp only; omega) _).setCell (p := ⟨w.heap.size + 1, 3, none⟩) (by dsimp only; omega) _).setCell (p := ⟨w.heap.size + 1, 4, none⟩) (by dsimp only; omega) _)⟩
  have HG : Hid (goodX kap b s r = true) := hg
  obtain ⟨q, eq⟩ : ∃ q, r ++ s = q := ⟨_, rfl⟩
  have HR : Hid (giveR kap cl b s r = (kap, cl, b, q, [], 0)) := by rw [Hid, giveR, if_pos hg, eq]
  have HQ := hid eq
  clear hg eq
  obtain ⟨w0, hw0⟩ : ∃ w0, w0 = ((w.alloc (.cells #[.int .i64 kap, .bool cl, .slice bo b.length bc, .slice so s.length sc, .slice ro r.length rc] 26)).alloc (.cells #[.int .i64 0, .bool false, .slice none 0 0, .slice none 0 0, .slice none 0 0] 26)) := ⟨_, rfl⟩
  have hB0 : Below w.heap.size w w0 := by rw [hw0]; exact Below.allocS (Below.allocS (Below.refl _ _) _) _
  have XA0 : Hid (Bx w0 (w.heap.size) [.int .i64 kap, .bool cl, .slice bo b.length bc, .slice so s.length sc, .slice ro r.length rc]) := by rw [hw0]; exact Bx.alloc (Bx.new [.int .i64 kap, .bool cl, .slice bo b.length bc, .slice so s.length sc, .slice ro r.length rc] _ rfl) _
  have XR0 : Hid (Bx w0 (w.heap.size + 1) [.int .i64 0, .bool false, .slice none 0 0, .slice none 0 0, .slice none 0 0]) := by rw [hw0]; exact Bx.new [.int .i64 0, .bool false, .slice none 0 0, .slice none 0 0, .slice none 0 0] _ (by simp)
  have H0 : Hid (w0 = ((w.alloc (.cells #[.int .i64 kap, .bool cl, .slice bo b.length bc, .slice so s.length sc, .slice ro r.length rc] 26)).alloc (.cells #[.int .i64 0, .bool false, .slice none 0 0, .slice none 0 0, .slice none 0 0] 26))) := hw0
  have hs0 : w.heap.size + 1 + 1 ≤ w0.heap.size := by rw [hw0]; simp
  clear hw0
  go_enter Try.func9, Try.ntmps9
  go_wp2_with fail
  rw [← H0.out]
  refine (implGood_is kap cl bo bc b so sc s ro rc r w0 true hlb hls hlr (hz.later hB0) HG.out).mono ?_
  rintro e w1 ⟨rfl, hb1⟩
  have hB1 := hB0.trans (hb1.mono hB0.size)
  have hs1 : w.heap.size + 1 + 1 ≤ w1.heap.size := Nat.le_trans hs0 hb1.size
  have hz1 : w0.heap.size ≤ w1.heap.size := hb1.size
  have XA1 := hid (XA0.out.later hb1)
  have XR1 := hid (XR0.out.later hb1)
  clear XA0 XR0
  clear hb1
  have a0 := XA1.out.c 0 rfl
  have af0 := XA1.out.f 0 rfl
  have a1 := XA1.out.c 1 rfl
  have af1 := XA1.out.f 1 rfl
  have a2 := XA1.out.c 2 rfl
  have af2 := XA1.out.f 2 rfl
  have a3 := XA1.out.c 3 rfl
  have af3 := XA1.out.f 3 rfl
  have a4 := XA1.out.c 4 rfl
  have af4 := XA1.out.f 4 rfl
  have az := XA1.out.size
  have r0 := XR1.out.c 0 rfl
  have rf0 := XR1.out.f 0 rfl
  have r1 := XR1.out.c 1 rfl
  have rf1 := XR1.out.f 1 rfl
  have r2 := XR1.out.c 2 rfl
  have rf2 := XR1.out.f 2 rfl
  have r3 := XR1.out.c 3 rfl
  have rf3 := XR1.out.f 3 rfl
  have r4 := XR1.out.c 4 rfl
  have rf4 := XR1.out.f 4 rfl
  have rz := XR1.out.size
  go_wp2_with fail
  clear a0 af0 a1 af1 a2 af2 a3 af3 a4 af4 az r0 rf0 r1 rf1 r2 rf2 r3 rf3 r4 rf4 rz
  refine (copyBox_any kap cl bo bc b so sc s ro rc r w1 hlb hls hlr (hz.later hB1)).mono ?_
  rintro e w2 ⟨⟨bo1, bc1, so1, sc1, ro1, rc1, rfl, hF⟩, hb2⟩
  have hB2 := hB1.trans (hb2.mono hB1.size)
  have hs2 : w.heap.size + 1 + 1 ≤ w2.heap.size := Nat.le_trans hs1 hb2.size
  have hz2 : w1.heap.size ≤ w2.heap.size := hb2.size
  have XA2 := hid (XA1.out.later hb2)
  have XR2 := hid (XR1.out.later hb2)
  clear XA1 XR1
  have F2 := hid (hF)
  clear hb2 hF
  have a0 := XA2.out.c 0 rfl
  have af0 := XA2.out.f 0 rfl
  have a1 := XA2.out.c 1 rfl
  have af1 := XA2.out.f 1 rfl
  have a2 := XA2.out.c 2 rfl
  have af2 := XA2.out.f 2 rfl
  have a3 := XA2.out.c 3 rfl
  have af3 := XA2.out.f 3 rfl
  have a4 := XA2.out.c 4 rfl
  have af4 := XA2.out.f 4 rfl
  have az := XA2.out.size
  have r0 := XR2.out.c 0 rfl
  have rf0 := XR2.out.f 0 rfl
  have r1 := XR2.out.c 1 rfl
  have rf1 := XR2.out.f 1 rfl
  have r2 := XR2.out.c 2 rfl
  have rf2 := XR2.out.f 2 rfl
  have r3 := XR2.out.c 3 rfl
  have rf3 := XR2.out.f 3 rfl
  have r4 := XR2.out.c 4 rfl
  have rf4 := XR2.out.f 4 rfl
  have rz := XR2.out.size
  obtain ⟨w3, hV⟩ : ∃ V, V = w2.alloc (.cells #[.int .i64 kap, .bool cl, .slice bo1 b.length bc1, .slice so1 s.length sc1, .slice ro1 r.length rc1] 26) := ⟨_, rfl⟩
  have hz3 : w2.heap.size ≤ w3.heap.size := by rw [hV]; simp
  have hs3 : w.heap.size + 1 + 1 ≤ w3.heap.size := Nat.le_trans hs2 hz3
  have hB3 : Below w.heap.size w w3 := by rw [hV]; exact Below.allocS hB2 _
  have XA3 := hid (XA2.out.alloc (.cells #[.int .i64 kap, .bool cl, .slice bo1 b.length bc1, .slice so1 s.length sc1, .slice ro1 r.length rc1] 26))
  rw [← hV] at XA3
  have XR3 := hid (XR2.out.alloc (.cells #[.int .i64 kap, .bool cl, .slice bo1 b.length bc1, .slice so1 s.length sc1, .slice ro1 r.length rc1] 26))
  rw [← hV] at XR3
  have F3 := hid (F2.out.later (below1 w2 (.cells #[.int .i64 kap, .bool cl, .slice bo1 b.length bc1, .slice so1 s.length sc1, .slice ro1 r.length rc1] 26)))
  rw [← hV] at F3
  have H3 : Hid (w3 = w2.alloc (.cells #[.int .i64 kap, .bool cl, .slice bo1 b.length bc1, .slice so1 s.length sc1, .slice ro1 r.length rc1] 26)) := hV
  clear hV XA2 XR2 F2
  have XN3 : Hid (Bx w3 w2.heap.size [.int .i64 kap, .bool cl, .slice bo1 b.length bc1, .slice so1 s.length sc1, .slice ro1 r.length rc1]) := by rw [H3.out]; exact Bx.new [.int .i64 kap, .bool cl, .slice bo1 b.length bc1, .slice so1 s.length sc1, .slice ro1 r.length rc1] _ rfl
  have hy3 : w2.heap.size < w3.heap.size := XN3.out.size
  go_upto_region 4 with fail
  clear a0 af0 a1 af1 a2 af2 a3 af3 a4 af4 az r0 rf0 r1 rf1 r2 rf2 r3 rf3 r4 rf4 rz
  rw [← H3.out]
  have a0 := XA3.out.c 0 rfl
  have af0 := XA3.out.f 0 rfl
  have a1 := XA3.out.c 1 rfl
  have af1 := XA3.out.f 1 rfl
  have a2 := XA3.out.c 2 rfl
  have af2 := XA3.out.f 2 rfl
  have a3 := XA3.out.c 3 rfl
  have af3 := XA3.out.f 3 rfl
  have a4 := XA3.out.c 4 rfl
  have af4 := XA3.out.f 4 rfl
  have az := XA3.out.size
  have r0 := XR3.out.c 0 rfl
  have rf0 := XR3.out.f 0 rfl
  have r1 := XR3.out.c 1 rfl
  have rf1 := XR3.out.f 1 rfl
  have r2 := XR3.out.c 2 rfl
  have rf2 := XR3.out.f 2 rfl
  have r3 := XR3.out.c 3 rfl
  have rf3 := XR3.out.f 3 rfl
  have r4 := XR3.out.c 4 rfl
  have rf4 := XR3.out.f 4 rfl
  have rz := XR3.out.size
  have n0 := XN3.out.c 0 rfl
  have nf0 := XN3.out.f 0 rfl
  have n1 := XN3.out.c 1 rfl
  have nf1 := XN3.out.f 1 rfl
  have n2 := XN3.out.c 2 rfl
  have nf2 := XN3.out.f 2 rfl
  have n3 := XN3.out.c 3 rfl
  have nf3 := XN3.out.f 3 rfl
  have n4 := XN3.out.c 4 rfl
  have nf4 := XN3.out.f 4 rfl
  have nz := XN3.out.size
  obtain ⟨w4, hV⟩ : ∃ V, V = w3.alloc (.cells #[.slice ro r.length rc, .slice so s.length sc] 24) := ⟨_, rfl⟩
  have hz4 : w3.heap.size ≤ w4.heap.size := by rw [hV]; simp
  have hs4 : w.heap.size + 1 + 1 ≤ w4.heap.size := Nat.le_trans hs3 hz4
  have hB4 : Below w.heap.size w w4 := by rw [hV]; exact Below.allocS hB3 _
  have XA4 := hid (XA3.out.alloc (.cells #[.slice ro r.length rc, .slice so s.length sc] 24))
  rw [← hV] at XA4
  have XR4 := hid (XR3.out.alloc (.cells #[.slice ro r.length rc, .slice so s.length sc] 24))
  rw [← hV] at XR4
  have XN4 := hid (XN3.out.alloc (.cells #[.slice ro r.length rc, .slice so s.length sc] 24))
  rw [← hV] at XN4
  have F4 := hid (F3.out.later (below1 w3 (.cells #[.slice ro r.length rc, .slice so s.length sc] 24)))
  rw [← hV] at F4
  have H4 : Hid (w4 = w3.alloc (.cells #[.slice ro r.length rc, .slice so s.length sc] 24)) := hV
  clear hV XA3 XR3 XN3 F3
  have XD4 : Hid (Bx w4 w3.heap.size [.slice ro r.length rc, .slice so s.length sc]) := by rw [H4.out]; exact Bx.new [.slice ro r.length rc, .slice so s.length sc] _ rfl
  have hy4 : w3.heap.size < w4.heap.size := XD4.out.size
  go_wp2_with fail
  clear a0 af0 a1 af1 a2 af2 a3 af3 a4 af4 az r0 rf0 r1 rf1 r2 rf2 r3 rf3 r4 rf4 rz n0 nf0 n1 nf1 n2 nf2 n3 nf3 n4 nf4 nz
  rw [← H4.out]
  refine (concatL2_as w3.heap.size ro rc r so sc s w4 hlr hls (hz.2.2.later hB4) (hz.2.1.later hB4) XD4.out q HQ.out).mono ?_
  rintro e w5 ⟨⟨v, rfl, hO⟩, hb5⟩
  have hB5 := hB4.trans (hb5.mono hB4.size)
  have hs5 : w.heap.size + 1 + 1 ≤ w5.heap.size := Nat.le_trans hs4 hb5.size
  have hz5 : w4.heap.size ≤ w5.heap.size := hb5.size
  have XA5 := hid (XA4.out.later hb5)
  have XR5 := hid (XR4.out.later hb5)
  have XN5 := hid (XN4.out.later hb5)
  have XD5 := hid (XD4.out.later hb5)
  have F5 := hid (F4.out.later hb5)
  clear XA4 XR4 XN4 XD4 F4
  clear hb5
  obtain ⟨go, qc, rfl, _, hK⟩ := hO.fresh
  have K5 := hid hK
  clear hO hK
  have a0 := XA5.out.c 0 rfl
  have af0 := XA5.out.f 0 rfl
  have a1 := XA5.out.c 1 rfl
  have af1 := XA5.out.f 1 rfl
  have a2 := XA5.out.c 2 rfl
  have af2 := XA5.out.f 2 rfl
  have a3 := XA5.out.c 3 rfl
  have af3 := XA5.out.f 3 rfl
  have a4 := XA5.out.c 4 rfl
  have af4 := XA5.out.f 4 rfl
  have az := XA5.out.size
  have r0 := XR5.out.c 0 rfl
  have rf0 := XR5.out.f 0 rfl
  have r1 := XR5.out.c 1 rfl
  have rf1 := XR5.out.f 1 rfl
  have r2 := XR5.out.c 2 rfl
  have rf2 := XR5.out.f 2 rfl
  have r3 := XR5.out.c 3 rfl
  have rf3 := XR5.out.f 3 rfl
  have r4 := XR5.out.c 4 rfl
  have rf4 := XR5.out.f 4 rfl
  have rz := XR5.out.size
  have n0 := XN5.out.c 0 rfl
  have nf0 := XN5.out.f 0 rfl
  have n1 := XN5.out.c 1 rfl
  have nf1 := XN5.out.f 1 rfl
  have n2 := XN5.out.c 2 rfl
  have nf2 := XN5.out.f 2 rfl
  have n3 := XN5.out.c 3 rfl
  have nf3 := XN5.out.f 3 rfl
  have n4 := XN5.out.c 4 rfl
  have nf4 := XN5.out.f 4 rfl
  have nz := XN5.out.size
  have d0 := XD5.out.c 0 rfl
  have df0 := XD5.out.f 0 rfl
  have d1 := XD5.out.c 1 rfl
  have df1 := XD5.out.f 1 rfl
  have dz := XD5.out.size
  go_upto_region 6 with fail
  clear a0 af0 a1 af1 a2 af2 a3 af3 a4 af4 az r0 rf0 r1 rf1 r2 rf2 r3 rf3 r4 rf4 rz n0 nf0 n1 nf1 n2 nf2 n3 nf3 n4 nf4 nz d0 df0 d1 df1 dz
  obtain ⟨w6, hV⟩ : ∃ V, V = ((w5.setCell ⟨w2.heap.size, 3, none⟩ (.slice go q.length qc)).setCell ⟨w2.heap.size, 4, none⟩ (.slice none 0 0)) := ⟨_, rfl⟩
  have hz6 : w5.heap.size ≤ w6.heap.size := by rw [hV]; simp [World.setCell]
  have hs6 : w.heap.size + 1 + 1 ≤ w6.heap.size := Nat.le_trans hs5 hz6
  have hB6 : Below w.heap.size w w6 := by rw [hV]; exact ((hB5.setCell (p := ⟨w2.heap.size, 3, none⟩) (by dsimp only; omega) _).setCell (p := ⟨w2.heap.size, 4, none⟩) (by dsimp only; omega) _)
  have XA6 := hid (((XA5.out.other (a := ⟨w2.heap.size, 3, none⟩) (by dsimp only; omega) (.slice go q.length qc)).other (a := ⟨w2.heap.size, 4, none⟩) (by dsimp only; omega) (.slice none 0 0)))
  rw [← hV] at XA6
  have XR6 := hid (((XR5.out.other (a := ⟨w2.heap.size, 3, none⟩) (by dsimp only; omega) (.slice go q.length qc)).other (a := ⟨w2.heap.size, 4, none⟩) (by dsimp only; omega) (.slice none 0 0)))
  rw [← hV] at XR6
  have XN6 := hid (((XN5.out.set 3 (.slice go q.length qc)).set 4 (.slice none 0 0)))
  rw [← hV] at XN6
  have XD6 := hid (((XD5.out.other (a := ⟨w2.heap.size, 3, none⟩) (by dsimp only; omega) (.slice go q.length qc)).other (a := ⟨w2.heap.size, 4, none⟩) (by dsimp only; omega) (.slice none 0 0)))
  rw [← hV] at XD6
  have F6 := hid (((F5.out.setOff (a := ⟨w2.heap.size, 3, none⟩) (by dsimp only; omega) (.slice go q.length qc)).setOff (a := ⟨w2.heap.size, 4, none⟩) (by dsimp only; omega) (.slice none 0 0)))
  rw [← hV] at F6
  have K6 := hid (((K5.out.setOff (a := ⟨w2.heap.size, 3, none⟩) (by dsimp only; omega) (.slice go q.length qc)).setOff (a := ⟨w2.heap.size, 4, none⟩) (by dsimp only; omega) (.slice none 0 0)))
  rw [← hV] at K6
  have H6 : Hid (w6 = ((w5.setCell ⟨w2.heap.size, 3, none⟩ (.slice go q.length qc)).setCell ⟨w2.heap.size, 4, none⟩ (.slice none 0 0))) := hV
  clear hV XA5 XR5 XN5 XD5 F5 K5
  rw [← H6.out]
  clear H6
  have a0 := XA6.out.c 0 rfl
  have af0 := XA6.out.f 0 rfl
  have a1 := XA6.out.c 1 rfl
  have af1 := XA6.out.f 1 rfl
  have a2 := XA6.out.c 2 rfl
  have af2 := XA6.out.f 2 rfl
  have a3 := XA6.out.c 3 rfl
  have af3 := XA6.out.f 3 rfl
  have a4 := XA6.out.c 4 rfl
  have af4 := XA6.out.f 4 rfl
  have az := XA6.out.size
  have r0 := XR6.out.c 0 rfl
  have rf0 := XR6.out.f 0 rfl
  have r1 := XR6.out.c 1 rfl
  have rf1 := XR6.out.f 1 rfl
  have r2 := XR6.out.c 2 rfl
  have rf2 := XR6.out.f 2 rfl
  have r3 := XR6.out.c 3 rfl
  have rf3 := XR6.out.f 3 rfl
  have r4 := XR6.out.c 4 rfl
  have rf4 := XR6.out.f 4 rfl
  have rz := XR6.out.size
  have n0 := XN6.out.c 0 rfl
  have nf0 := XN6.out.f 0 rfl
  have n1 := XN6.out.c 1 rfl
  have nf1 := XN6.out.f 1 rfl
  have n2 := XN6.out.c 2 rfl
  have nf2 := XN6.out.f 2 rfl
  have n3 := XN6.out.c 3 rfl
  have nf3 := XN6.out.f 3 rfl
  have n4 := XN6.out.c 4 rfl
  have nf4 := XN6.out.f 4 rfl
  have nz := XN6.out.size
  have d0 := XD6.out.c 0 rfl
  have df0 := XD6.out.f 0 rfl
  have d1 := XD6.out.c 1 rfl
  have df1 := XD6.out.f 1 rfl
  have dz := XD6.out.size
  go_wp2
  refine bodyPost_ret (v := .tuple #[.agg #[.int .i64 kap, .bool cl, .slice bo1 b.length bc1, .slice go q.length qc, .slice none 0 0], .int .i64 0]) (by simp [results, Try.results9, go_sem, r0, r1, r2, r3, r4]) rfl ?_
  rw [HR.out]
  exact ⟨⟨_, _, _, _, none, 0, rfl, (((((((F6.out.setOff (a := ⟨w.heap.size + 1, 0, none⟩) (by dsimp only; omega) _).setOff (a := ⟨w.heap.size + 1, 1, none⟩) (by dsimp only; omega) _).setOff (a := ⟨w.heap.size + 1, 2, none⟩) (by dsimp only; omega) _).setOff (a := ⟨w.heap.size + 1, 3, none⟩) (by dsimp only; omega) _).setOff (a := ⟨w.heap.size + 1, 4, none⟩) (by dsimp only; omega) _).1.wide (by omega) (Nat.le_refl _)).low (Nat.le_refl _)), (((((((K6.out.setOff (a := ⟨w.heap.size + 1, 0, none⟩) (by dsimp only; omega) _).setOff (a := ⟨w.heap.size + 1, 1, none⟩) (by dsimp only; omega) _).setOff (a := ⟨w.heap.size + 1, 2, none⟩) (by dsimp only; omega) _).setOff (a := ⟨w.heap.size + 1, 3, none⟩) (by dsimp only; omega) _).setOff (a := ⟨w.heap.size + 1, 4, none⟩) (by dsimp only; omega) _).wide (by omega) (Nat.le_refl _)).low (Nat.le_refl _)), .inl rfl, .inr (.inl rfl)⟩, (((((hB6.setCell (p := ⟨w.heap.size + 1, 0, none⟩) (by dsimp only; omega) _).setCell (p := ⟨w.heap.size + 1, 1, none⟩) (by dsimp only; omega) _).setCell (p := ⟨w.heap.size + 1, 2, none⟩) (by dsimp only; omega) _).setCell (p := ⟨w.heap.size + 1, 3, none⟩) (by dsimp only; omega) _).setCell (p := ⟨w.heap.size + 1, 4, none⟩) (by dsimp only; omega) _)⟩
end Go.Proofs.Ytnnlbnbamhkcaaa
