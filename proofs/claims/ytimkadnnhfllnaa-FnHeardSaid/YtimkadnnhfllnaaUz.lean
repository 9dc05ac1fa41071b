
/- Unsubscribe, the specification. No conditions but those written. -/
import Derived.Test.YtimkadnnhfllnaaUa
import Derived.Test.YtimkadnnhfllnaaTu
import Derived.Test.YtimkadnnhfllnaaTe
namespace Go.Proofs.Ytimkadnnhfllnaa
open Go.RowKit

/-- As AnsU; none has no room where the code is 0. -/
def AnsUz (w : World) (r : Int × List PSub × List Int × Int) (e : Ending) (w' : World) : Prop := (∃ o c us go qc, e = .returned (.tuple #[.agg #[.int .i64 r.1, .slice o r.2.1.length c], .slice go r.2.2.1.length qc, .int .i64 r.2.2.2]) ∧ us.map valSub = r.2.1 ∧ DFr dSub w.heap.size w'.heap.size w' o c us ∧ kI.Fresh w.heap.size w'.heap.size w' go qc r.2.2.1 ∧ Apart us go r.2.2.1 ∧ (r.2.2.2 = 0 → us = [] → c = 0)) ∧ Below w.heap.size w w'
/-- Elements are put behind a row of its own; nil stays nil where there are none. -/
theorem Kind.app3 {α : Type} {K : Kind α} [Inhabited α] (hK : K.Ok) {ops : Array Oper} {rest : List Oper} {o : Oper} {a : Act} {Q : Exit → Act → World → Prop} (W : World) (hg : o.guard = none) (s x : Operand) (hop : o.op = Op.call { callee := Callee.builtin Builtin.append, args := #[s, x], argTypes := #[K.st, K.st] })
    (lo : Nat) (v : Value) (xs : List α) (hs : a.eval s = v) (hown : K.Own lo W v xs) (hlo : lo ≤ W.heap.size)
    (ao : Option Addr) (ys : List α) (m c : Nat) (hx : a.eval x = .slice ao m c) (hm : ys.length = m) (n : Nat) (hz : K.In n W ao ys) (hl : xs.length + ys.length ≤ 4194304)
    (hk : ∀ v' w', K.Own lo w' v' (xs ++ ys) → Below lo W w' → W.grownBy w' v.ownBlock → ((v ≠ .slice none 0 0 → v' ≠ .slice none 0 0) ∧ (v = .slice none 0 0 → ys = [] → v' = .slice none 0 0)) → wpList Try.prog ops Q rest (a.put o.dst v') w') :
    wpList Try.prog ops Q (o :: rest) a W := by
  obtain ⟨i0, z0, hin, hz0, hz1, hz2, hz3⟩ := hK.info
  cases ao with
  | none =>
    have hy : ys = [] := by rcases hz with h | ⟨b, off, e, _⟩; exact h; cases e
    subst hy
    subst hm
    have hrun := run_append_none2 (P := Try.prog) (w := W) lo K.st o.type K.ty i0 K.sz c hK.und hin v xs.length (K.flat xs) hown
    refine wpList_plain hg fun K' hK' => ?_
    unfold Oper.wp
    simp [execOp, hop, resolve, invoke, builtin, hs, hx, hrun, Result.andThen]
    exact hK' _ _ (hk v W (by simpa using hown) (Below.refl _ _) ⟨rfl, rfl, rfl, Nat.le_refl _, fun _ _ _ => rfl⟩ ⟨id, fun h _ => h⟩)
  | some ad =>
    subst hm
    refine wpList_append_own W hg s x K.st hop lo K.ty i0 z0 K.sz i0.bytes hK.und hin hz0 hz1 rfl hz2 hK.pos v xs.length (K.flat xs) hs hown ad ys.length c (K.flat ys) hx (K.flat_len ys) hz.src (K.flat_one ys) (by unfold maxLen; omega) ?_ hlo ?_
    · have : (xs.length + ys.length) * i0.bytes ≤ 4194304 * 4096 := Nat.mul_le_mul hl hz3
      omega
    · intro v' w' ho hgr hnil
      refine hk v' w' ?_ (hown.belowG hgr hlo) hgr ⟨fun hv e => hv (hnil.1 e).1, fun hv e => hnil.2 ⟨hv, by rw [e]; rfl⟩⟩
      unfold Kind.Own
      rw [K.flat_app, List.length_append]; exact ho
set_option maxRecDepth 10000 in
set_option maxHeartbeats 16000000 in
theorem specUnsuZ_any (sd : Int) (ao : Option Addr) (cap : Nat) (ts : List LSub) (id : Int) (w : World) (hl : ts.length ≤ 1048576) (hf : Fits ts) (hz : DIn dSub w.heap.size w ao ts) :
    Calls Try.prog 29 #[.agg #[.int .i64 sd, .slice ao ts.length cap], .int .i64 id] w fun e w' => AnsUz w (unsR sd (ts.map valSub) id) e w' := by
  have HZ := hid hz
  have HF := hid hf
  clear hz hf
  obtain ⟨V, hV⟩ : ∃ V, V = (w.alloc (.cells #[.int .i64 sd, .slice ao ts.length cap] 25)).alloc (.cells #[.int .i64 0, .slice none 0 0] 25) := ⟨_, rfl⟩
  have hB0 : Below w.heap.size w V := by rw [hV]; exact below2 _ _ _
  have A0 : Hid (Bx V w.heap.size [.int .i64 sd, .slice ao ts.length cap]) := by rw [hV]; exact (Bx.new [.int .i64 sd, .slice ao ts.length cap] _ rfl).alloc _
  have R0 : Hid (Bx V (w.heap.size + 1) [.int .i64 0, .slice none 0 0]) := by rw [hV]; exact Bx.new [.int .i64 0, .slice none 0 0] _ (by simp)
  have HS : Hid (V.heap.size = w.heap.size + 1 + 1) := by rw [hV]; simp [Hid]
  have HV := hid hV
  have hlm : (ts.map valSub).length = ts.length := by simp
  have HLM := hid hlm
  clear hV hlm
  cases hg : topicB sd (ts.map valSub)
  · have HG := hid hg
    have HR : Hid (unsR sd (ts.map valSub) id = (0, [], [], 1)) := by rw [Hid, unsR, hg]; rfl
    clear hg
    go_enter Try.func29, Try.ntmps29
    go_wp2_with fail
    rw [← HV.out]
    refine (specGood_is sd ao cap ts V false hl HF.out (HZ.out.later dSub_ok hB0) HG.out).mono ?_
    rintro e w1 ⟨rfl, hb1⟩
    have hB1 := hB0.trans (hb1.mono hB0.size)
    have hV1 := hb1.size
    have A1 := hid (A0.out.later hb1)
    have R1 := hid (R0.out.later hb1)
    have a0 := A1.out.c 0 rfl
    have a1 := A1.out.c 1 rfl
    have r0 := R1.out.c 0 rfl
    have rf0 := R1.out.f 0 rfl
    have r1 := R1.out.c 1 rfl
    have rf1 := R1.out.f 1 rfl
    clear hb1 A0 R0
    have rz := R1.out.size
    go_wp2
    refine bodyPost_ret (v := .tuple #[.agg #[.int .i64 0, .slice none 0 0], .slice none 0 0, .int .i64 1]) (by simp [results, Try.results29, go_sem, r0, r1]) rfl ?_
    rw [HR.out]
    exact ⟨⟨none, 0, [], none, 0, rfl, rfl, DFr.nil _ _ _ _ _, .inl rfl, apart_nil _ _, fun h => by simp at h⟩, (hB1.setCell (p := ⟨w.heap.size + 1, 0, none⟩) (by dsimp only; omega) _).setCell (p := ⟨w.heap.size + 1, 1, none⟩) (by dsimp only; omega) _⟩
  have HG := hid hg
  clear hg
  cases ht : thB (ts.map valSub) id
  · have HT : Hid (atI (ts.map valSub) id = -1) := by rw [Hid, atI, ht]; rfl
    have HR : Hid (unsR sd (ts.map valSub) id = (sd, ts.map valSub, [], 4)) := by rw [Hid, unsR, HG.out, ht]; rfl
    clear ht
    go_enter Try.func29, Try.ntmps29
    go_wp2_with fail
    rw [← HV.out]
    refine (specGood_is sd ao cap ts V true hl HF.out (HZ.out.later dSub_ok hB0) HG.out).mono ?_
    rintro e w1 ⟨rfl, hb1⟩
    have hB1 := hB0.trans (hb1.mono hB0.size)
    have hV1 := hb1.size
    have A1 := hid (A0.out.later hb1)
    have R1 := hid (R0.out.later hb1)
    have a0 := A1.out.c 0 rfl
    have a1 := A1.out.c 1 rfl
    have r0 := R1.out.c 0 rfl
    have rf0 := R1.out.f 0 rfl
    have r1 := R1.out.c 1 rfl
    have rf1 := R1.out.f 1 rfl
    clear hb1 A0 R0
    go_wp2_with fail
    refine (l9Own_any sd ao cap ts w1 hl HF.out (HZ.out.later dSub_ok hB1)).mono ?_
    rintro e w2 ⟨⟨o, c, us, rfl, hv2, hD2⟩, hb2⟩
    rw [List.length_map]
    have HU := hid hv2
    have hul := len_val hv2
    have HUL := hid hul
    have A2 := hid (A1.out.later hb2)
    have R2 := hid (R1.out.later hb2)
    have hB2 := hB1.trans (hb2.mono hB1.size)
    have hV2 := Nat.le_trans hV1 hb2.size
    have hs12 : w1.heap.size ≤ w2.heap.size := hb2.size
    obtain ⟨w3, hw3⟩ : ∃ V, V = (w2.setCell ⟨w.heap.size, 0, none⟩ (.int .i64 sd)).setCell ⟨w.heap.size, 1, none⟩ (.slice o ts.length c) := ⟨_, rfl⟩
    have A3 : Hid (Bx w3 w.heap.size [.int .i64 sd, .slice o ts.length c]) := by rw [Hid, hw3]; exact (A2.out.set 0 _).set 1 _
    have R3 : Hid (Bx w3 (w.heap.size + 1) [.int .i64 0, .slice none 0 0]) := by rw [Hid, hw3]; exact (R2.out.other (a := ⟨w.heap.size, 0, none⟩) (by dsimp only; omega) _).other (a := ⟨w.heap.size, 1, none⟩) (by dsimp only; omega) _
    have D3 : Hid (DFr dSub w1.heap.size w2.heap.size w3 o c us) := by rw [Hid, hw3]; exact hD2.keep dSub_ok fun q h1 _ _ => by rw [Below.heap_setCell _ _ _ _ (by dsimp only; have := HS.out; omega), Below.heap_setCell _ _ _ _ (by dsimp only; have := HS.out; omega)]
    have hB3 : Below w.heap.size w w3 := by rw [hw3]; exact (hB2.setCell (p := ⟨w.heap.size, 0, none⟩) (by dsimp only; omega) _).setCell (p := ⟨w.heap.size, 1, none⟩) (by dsimp only; omega) _
    have hz3 : w3.heap.size = w2.heap.size := by rw [hw3]; simp [World.setCell]
    have HZ3 := hid hz3
    have HAt := hid (l9At_is sd o c us id w3 (by rw [hul]; exact hl) (by rw [hv2]; exact (topicB_good HG.out).2.2) (D3.out.in dSub_ok).1)
    rw [hul, hv2] at HAt
    have b0 := A2.out.c 0 rfl
    have bf0 := A2.out.f 0 rfl
    have b1 := A2.out.c 1 rfl
    have bf1 := A2.out.f 1 rfl
    have HW3 := hid hw3
    clear A1 R1 a0 a1 r0 rf0 r1 rf1 hv2 hD2 hul hb2 hB1 hw3 A2 R2 hB2 hz3
    go_wp2_with fail
    rw [← HW3.out]
    clear b0 bf0 b1 bf1
    refine HAt.out.mono ?_
    rintro e w4 ⟨rfl, hb4⟩
    have A4 := hid (A3.out.later hb4)
    have R4 := hid (R3.out.later hb4)
    have D4 := hid (D3.out.later dSub_ok hb4)
    have hB4 := hB3.trans (hb4.mono hB3.size)
    have hs4 : w2.heap.size ≤ w4.heap.size := by rw [← HZ3.out]; exact hb4.size
    clear hb4 A3 R3 D3 hB3 HAt
    rw [HT.out]
    have p0 := A4.out.c 0 rfl
    have p1 := A4.out.c 1 rfl
    have r0 := R4.out.c 0 rfl
    have rf0 := R4.out.f 0 rfl
    have r1 := R4.out.c 1 rfl
    have rf1 := R4.out.f 1 rfl
    have rz := R4.out.size
    go_wp2
    refine bodyPost_ret (v := .tuple #[.agg #[.int .i64 sd, .slice o ts.length c], .slice none 0 0, .int .i64 4]) (by simp [results, Try.results29, go_sem, r0, r1]) rfl ?_
    rw [HR.out]
    refine ⟨⟨o, c, us, none, 0, by rw [HLM.out]; rfl, HU.out, ?_, .inl rfl, apart_nil _ _, fun h => by simp at h⟩, (hB4.setCell (p := ⟨w.heap.size + 1, 0, none⟩) (by dsimp only; omega) _).setCell (p := ⟨w.heap.size + 1, 1, none⟩) (by dsimp only; omega) _⟩
    have hsv := HS.out
    exact DFr.wide dSub_ok (DFr.keep dSub_ok D4.out fun q h1 _ _ => by rw [Below.heap_setCell _ _ _ _ (by dsimp only; omega), Below.heap_setCell _ _ _ _ (by dsimp only; omega)]) (by omega) (by simp [World.setCell]; omega)
  have hkl := thB_lt ht
  rw [HLM.out] at hkl
  have hev := el_val hkl
  have HTH := hid ht
  have HT0 : Hid (atI (ts.map valSub) id = (pl (ts.map valSub) id : Int)) := by rw [Hid, atI, ht]; rfl
  obtain ⟨k, hk⟩ : ∃ k, k = pl (ts.map valSub) id := ⟨_, rfl⟩
  have HK := hid hk
  have HT : Hid (atI (ts.map valSub) id = (k : Int)) := by rw [Hid, HT0.out, hk]
  rw [← hk] at hkl hev
  clear ht hk HT0
  obtain ⟨⟨nd, kap, dr, dp, ⟨qo, qc0, q⟩⟩, ey⟩ : ∃ v, v = el ts k := ⟨_, rfl⟩
  rw [← ey] at hev
  have HE : Hid (el (ts.map valSub) k = (nd, kap, dr, dp, q)) := hev
  have HKL := hid hkl
  have HR : Hid (unsR sd (ts.map valSub) id = (sd, ((ts.map valSub).take k ++ (ts.map valSub).drop (k + 1)), q, 0)) := by rw [Hid, unsR, HG.out, HTH.out, ← HK.out, HE.out]; rfl
  clear ey hev hkl
  go_enter Try.func29, Try.ntmps29
  go_wp2_with fail
  rw [← HV.out]
  refine (specGood_is sd ao cap ts V true hl HF.out (HZ.out.later dSub_ok hB0) HG.out).mono ?_
  rintro e w1 ⟨rfl, hb1⟩
  have hB1 := hB0.trans (hb1.mono hB0.size)
  have hV1 := hb1.size
  have A1 := hid (A0.out.later hb1)
  have R1 := hid (R0.out.later hb1)
  have a0 := A1.out.c 0 rfl
  have a1 := A1.out.c 1 rfl
  have r0 := R1.out.c 0 rfl
  have rf0 := R1.out.f 0 rfl
  have r1 := R1.out.c 1 rfl
  have rf1 := R1.out.f 1 rfl
  clear hb1 A0 R0
  go_wp2_with fail
  refine (l9Own_any sd ao cap ts w1 hl HF.out (HZ.out.later dSub_ok hB1)).mono ?_
  rintro e w2 ⟨⟨o, c, us, rfl, hv2, hD2⟩, hb2⟩
  rw [List.length_map]
  have HU := hid hv2
  have hul := len_val hv2
  have HUL := hid hul
  have A2 := hid (A1.out.later hb2)
  have R2 := hid (R1.out.later hb2)
  have hB2 := hB1.trans (hb2.mono hB1.size)
  have hV2 := Nat.le_trans hV1 hb2.size
  have hs12 : w1.heap.size ≤ w2.heap.size := hb2.size
  obtain ⟨w3, hw3⟩ : ∃ V, V = (w2.setCell ⟨w.heap.size, 0, none⟩ (.int .i64 sd)).setCell ⟨w.heap.size, 1, none⟩ (.slice o ts.length c) := ⟨_, rfl⟩
  have A3 : Hid (Bx w3 w.heap.size [.int .i64 sd, .slice o ts.length c]) := by rw [Hid, hw3]; exact (A2.out.set 0 _).set 1 _
  have R3 : Hid (Bx w3 (w.heap.size + 1) [.int .i64 0, .slice none 0 0]) := by rw [Hid, hw3]; exact (R2.out.other (a := ⟨w.heap.size, 0, none⟩) (by dsimp only; omega) _).other (a := ⟨w.heap.size, 1, none⟩) (by dsimp only; omega) _
  have D3 : Hid (DFr dSub w1.heap.size w2.heap.size w3 o c us) := by rw [Hid, hw3]; exact hD2.keep dSub_ok fun q h1 _ _ => by rw [Below.heap_setCell _ _ _ _ (by dsimp only; have := HS.out; omega), Below.heap_setCell _ _ _ _ (by dsimp only; have := HS.out; omega)]
  have hB3 : Below w.heap.size w w3 := by rw [hw3]; exact (hB2.setCell (p := ⟨w.heap.size, 0, none⟩) (by dsimp only; omega) _).setCell (p := ⟨w.heap.size, 1, none⟩) (by dsimp only; omega) _
  have hz3 : w3.heap.size = w2.heap.size := by rw [hw3]; simp [World.setCell]
  have HZ3 := hid hz3
  have HAt := hid (l9At_is sd o c us id w3 (by rw [hul]; exact hl) (by rw [hv2]; exact (topicB_good HG.out).2.2) (D3.out.in dSub_ok).1)
  rw [hul, hv2] at HAt
  have b0 := A2.out.c 0 rfl
  have bf0 := A2.out.f 0 rfl
  have b1 := A2.out.c 1 rfl
  have bf1 := A2.out.f 1 rfl
  have HW3 := hid hw3
  clear A1 R1 a0 a1 r0 rf0 r1 rf1 hv2 hD2 hul hb2 hB1 hw3 A2 R2 hB2 hz3
  go_wp2_with fail
  rw [← HW3.out]
  clear b0 bf0 b1 bf1
  refine HAt.out.mono ?_
  rintro e w4 ⟨rfl, hb4⟩
  have A4 := hid (A3.out.later hb4)
  have R4 := hid (R3.out.later hb4)
  have D4 := hid (D3.out.later dSub_ok hb4)
  have hB4 := hB3.trans (hb4.mono hB3.size)
  have hs4 : w2.heap.size ≤ w4.heap.size := by rw [← HZ3.out]; exact hb4.size
  clear hb4 A3 R3 D3 hB3 HAt
  rw [HT.out]
  have hku : k < us.length := by rw [HUL.out]; exact HKL.out
  obtain ⟨g, hgo, hgl, hgh, hgs, _⟩ := (show hSub.Fresh _ _ _ _ _ _ from D4.out.1).at (show 0 < us.length by omega)
  subst hgo
  have hue := el_val hku
  rw [HU.out, HE.out] at hue
  have hd := (hd_at D4.out hku).1
  obtain ⟨⟨nd', kap', dr', dp', ⟨uo, uc, q'⟩⟩, eu⟩ : ∃ v, v = el us k := ⟨_, rfl⟩
  have HEU := hid eu
  rw [← eu] at hue hd
  simp only [valSub, Prod.mk.injEq] at hue
  obtain ⟨rfl, rfl, rfl, rfl, rfl⟩ := hue
  dsimp only at hd
  obtain ⟨c0, c1, c2, c3, c4⟩ := hd
  have hcap := (show hSub.Fresh _ _ _ _ _ _ from D4.out.1).cap
  rw [HUL.out] at hcap
  have IN := (show hSub.Fresh _ _ _ _ _ _ from D4.out.1).in
  have IT : Hid (hSub.In w4.heap.size w4 (some ⟨g, 0, none⟩) (us.take k)) := IN.take k
  have IDe : Hid (hSub.In w4.heap.size w4 (some ⟨g, (k + 1) * 5, none⟩) (us.drop (k + 1))) := by
    have h := IN.drop (k + 1)
    rw [Nat.zero_add] at h
    exact h
  have IDn : Hid (c = k + 1 → hSub.In w4.heap.size w4 (some ⟨g, 0, none⟩) (us.drop (k + 1))) := fun h => .inl (List.drop_eq_nil_of_le (by rw [HUL.out]; omega))
  have hkl := HKL.out
  have hk0 : (0 : Int) ≤ (k : Int) := by omega
  have hk1 : (k : Int) < (ts.length : Int) := by omega
  have hkn : decide ((k : Int) < 0) = false := by simp
  have hkc : (k : Int) ≤ (c : Int) := by omega
  have hkc1 : (k : Int) + 1 ≤ (ts.length : Int) := by omega
  have hkc2 : (0 : Int) ≤ (k : Int) + 1 := by omega
  have a0 := A4.out.c 0 rfl
  have a1 := A4.out.c 1 rfl
  clear IN eu hku
  by_cases hck : c = k + 1
  · have ID := hid (IDn.out hck)
    clear IDn IDe
    have hB0s : w.heap.size < w4.heap.size := A4.out.size
    have hll1 : ([] : List LSub).length + (us.take k).length ≤ 4194304 := by simp; omega
    have hkl2 : (us.take k).length = k := by rw [List.length_take, HUL.out]; omega
    have hlI : (us.take k ++ us.drop (k + 1)).length = ts.length - 1 := by simp [HUL.out]; omega
    have HKL2 := hid hkl2
    have HLI := hid hlI
    have hdl : (us.drop (k + 1)).length = ts.length - (k + 1) := by rw [List.length_drop, HUL.out]
    have HDL := hid hdl
    clear hkl2 hlI hdl
    go_upto_region 11 with (first
      | (at_builtin; have _z := O5; refine Kind.app3 hSub_ok w5 rfl (.tmp 34) (.tmp 39) rfl w4.heap.size v1 (us.take k) rfl O5.out hs5 _ (us.drop (k + 1)) _ _ rfl HDL.out _ ID5.out (by rw [HDL.out, HKL2.out]; omega) ?_; intro v3 w7 hO7 hb7 hG7 hn7; have Z7 : Hid (us.take k = [] → us.drop (k + 1) = [] → v3 = .slice none 0 0) := hid (fun e1 e2 => hn7.2 (ZK.out e1) e2); have B7 := hid (B5.out.trans hb7); obtain ⟨go, qc, hv, _, hF7⟩ := Kind.Own.fresh (xs := (us.take k ++ us.drop (k + 1))) hO7; rw [HLI.out] at hv; subst hv; have F7 := hid hF7; have A7 := hid (A4.out.later B7.out); have a70 := A7.out.c 0 rfl; have a71 := A7.out.c 1 rfl; have af71 := A7.out.f 1 rfl; clear hO7 hG7 hn7 hb7 a50 a51 O5 ID5 B5)
      | (at_builtin; (fail_if_success (have _g := hs5)); refine Kind.app3 hSub_ok w4 rfl (.tmp 28) (.tmp 32) rfl w4.heap.size (.slice none 0 0) [] rfl (Kind.Own.nil _ _ _) (Nat.le_refl _) _ (us.take k) _ _ rfl HKL2.out _ IT.out hll1 ?_; intro v1 w5 hO5 hb5 hG5 hn5; have ZK : Hid (us.take k = [] → v1 = .slice none 0 0) := hid (fun e1 => hn5.2 rfl e1); have O5 : Hid (hSub.Own w4.heap.size w5 v1 (us.take k)) := hO5; have B5 := hid hb5; have hs5 := hb5.size; have A5 := A4.out.later hb5; have a50 := A5.c 0 rfl; have a51 := A5.c 1 rfl; have ID5 := hid (ID.out.below hb5); clear hO5 hG5 hn5 hb5 A5))
    all_goals
      obtain ⟨w8, hw8⟩ : ∃ V, V = w7.setCell ⟨w.heap.size, 1, none⟩ (.slice go (ts.length - 1) qc) := ⟨_, rfl⟩
      have hsv := HS.out
      have R7 := hid (R4.out.later B7.out)
      have D7 := hid (D4.out.later dSub_ok B7.out)
      have P8 : Hid (Bx w8 w.heap.size [.int .i64 sd, .slice go (ts.length - 1) qc]) := by rw [Hid, hw8]; exact A7.out.set 1 _
      have R8 : Hid (Bx w8 (w.heap.size + 1) [.int .i64 0, .slice none 0 0]) := by rw [Hid, hw8]; exact R7.out.other (a := ⟨w.heap.size, 1, none⟩) (by dsimp only; omega) _
      have D8 : Hid (DFr dSub w1.heap.size w2.heap.size w8 (some ⟨g, 0, none⟩) c us) := by rw [Hid, hw8]; exact D7.out.keep dSub_ok fun q h1 _ _ => Below.heap_setCell _ _ _ _ (by dsimp only; omega)
      have F8 : Hid (hSub.Fresh w4.heap.size w7.heap.size w8 go qc (us.take k ++ us.drop (k + 1))) := by rw [Hid, hw8]; exact F7.out.setBelow (a := ⟨w.heap.size, 1, none⟩) hB0s _
      have hB8 : Below w.heap.size w w8 := by rw [hw8]; exact (hB4.trans (B7.out.mono hB4.size)).setCell (p := ⟨w.heap.size, 1, none⟩) (by dsimp only; omega) _
      have hs7 : w4.heap.size ≤ w7.heap.size := B7.out.size
      have hz8 : w8.heap.size = w7.heap.size := by rw [hw8]; simp [World.setCell]
      have HZ8 := hid hz8
      have hku3 : k < us.length := by rw [HUL.out]; omega
      have E8 := hid (del_fr D8.out hku3 (F8.out.wide (by omega) (Nat.le_refl _)) (by omega))
      have AP0 := apart_del D8.out hku3
      have HI8 : kI.Fresh w1.heap.size w2.heap.size w8 (el us k).2.2.2.2.1 (el us k).2.2.2.2.2.1 (el us k).2.2.2.2.2.2 := D8.out.2.1 k hku3
      rw [← HEU.out] at AP0 HI8
      have AP : Hid (Apart (us.take k ++ us.drop (k + 1)) uo q) := AP0
      have I8 : Hid (kI.Fresh w1.heap.size w2.heap.size w8 uo uc q) := HI8
      have HV8 := hid (map_del (k := k) HU.out)
      have HW8 := hid hw8
      clear hw8 hz8 a70 a71 af71 A7 R7 D7 F7 D8 F8 AP0 HI8
      rw [← HW8.out]
      have p0 := P8.out.c 0 rfl
      have p1 := P8.out.c 1 rfl
      have r0 := R8.out.c 0 rfl
      have rf0 := R8.out.f 0 rfl
      have r1 := R8.out.c 1 rfl
      have rf1 := R8.out.f 1 rfl
      have rz := R8.out.size
      have hl9 : ((ts.map valSub).take k ++ (ts.map valSub).drop (k + 1)).length = ts.length - 1 := by simp; omega
      go_wp2
      refine bodyPost_ret (v := .tuple #[.agg #[.int .i64 sd, .slice go (ts.length - 1) qc], .slice uo q.length uc, .int .i64 0]) (by simp [results, Try.results29, go_sem, r0, r1]) rfl ?_
      rw [HR.out]
      have hzv := HZ8.out
      refine ⟨⟨go, qc, (us.take k ++ us.drop (k + 1)), uo, uc, by rw [hl9], HV8.out, ?_, ?_, AP.out, ?_⟩, (hB8.setCell (p := ⟨w.heap.size + 1, 0, none⟩) (by dsimp only; omega) _).setCell (p := ⟨w.heap.size + 1, 1, none⟩) (by dsimp only; omega) _⟩
      · exact DFr.wide dSub_ok (DFr.keep dSub_ok E8.out fun q h1 _ _ => by rw [Below.heap_setCell _ _ _ _ (by dsimp only; omega), Below.heap_setCell _ _ _ _ (by dsimp only; omega)]) (by omega) (by simp [World.setCell]; omega)
      · exact Kind.Fresh.wide (Kind.Fresh.keep I8.out fun q h1 _ _ => by rw [Below.heap_setCell _ _ _ _ (by dsimp only; omega), Below.heap_setCell _ _ _ _ (by dsimp only; omega)]) (by omega) (by simp [World.setCell]; omega)
      · intro _ e0
        obtain ⟨e1, e2⟩ := List.append_eq_nil_iff.1 e0
        have e := Z7.out e1 e2
        simp at e
        exact e.2.2
  · have ID := hid IDe.out
    clear IDn IDe
    have hB0s : w.heap.size < w4.heap.size := A4.out.size
    have hll1 : ([] : List LSub).length + (us.take k).length ≤ 4194304 := by simp; omega
    have hkl2 : (us.take k).length = k := by rw [List.length_take, HUL.out]; omega
    have hlI : (us.take k ++ us.drop (k + 1)).length = ts.length - 1 := by simp [HUL.out]; omega
    have HKL2 := hid hkl2
    have HLI := hid hlI
    have hdl : (us.drop (k + 1)).length = ts.length - (k + 1) := by rw [List.length_drop, HUL.out]
    have HDL := hid hdl
    clear hkl2 hlI hdl
    go_upto_region 11 with (first
      | (at_builtin; have _z := O5; refine Kind.app3 hSub_ok w5 rfl (.tmp 34) (.tmp 39) rfl w4.heap.size v1 (us.take k) rfl O5.out hs5 _ (us.drop (k + 1)) _ _ rfl HDL.out _ ID5.out (by rw [HDL.out, HKL2.out]; omega) ?_; intro v3 w7 hO7 hb7 hG7 hn7; have Z7 : Hid (us.take k = [] → us.drop (k + 1) = [] → v3 = .slice none 0 0) := hid (fun e1 e2 => hn7.2 (ZK.out e1) e2); have B7 := hid (B5.out.trans hb7); obtain ⟨go, qc, hv, _, hF7⟩ := Kind.Own.fresh (xs := (us.take k ++ us.drop (k + 1))) hO7; rw [HLI.out] at hv; subst hv; have F7 := hid hF7; have A7 := hid (A4.out.later B7.out); have a70 := A7.out.c 0 rfl; have a71 := A7.out.c 1 rfl; have af71 := A7.out.f 1 rfl; clear hO7 hG7 hn7 hb7 a50 a51 O5 ID5 B5)
      | (at_builtin; (fail_if_success (have _g := hs5)); refine Kind.app3 hSub_ok w4 rfl (.tmp 28) (.tmp 32) rfl w4.heap.size (.slice none 0 0) [] rfl (Kind.Own.nil _ _ _) (Nat.le_refl _) _ (us.take k) _ _ rfl HKL2.out _ IT.out hll1 ?_; intro v1 w5 hO5 hb5 hG5 hn5; have ZK : Hid (us.take k = [] → v1 = .slice none 0 0) := hid (fun e1 => hn5.2 rfl e1); have O5 : Hid (hSub.Own w4.heap.size w5 v1 (us.take k)) := hO5; have B5 := hid hb5; have hs5 := hb5.size; have A5 := A4.out.later hb5; have a50 := A5.c 0 rfl; have a51 := A5.c 1 rfl; have ID5 := hid (ID.out.below hb5); clear hO5 hG5 hn5 hb5 A5))
    all_goals
      obtain ⟨w8, hw8⟩ : ∃ V, V = w7.setCell ⟨w.heap.size, 1, none⟩ (.slice go (ts.length - 1) qc) := ⟨_, rfl⟩
      have hsv := HS.out
      have R7 := hid (R4.out.later B7.out)
      have D7 := hid (D4.out.later dSub_ok B7.out)
      have P8 : Hid (Bx w8 w.heap.size [.int .i64 sd, .slice go (ts.length - 1) qc]) := by rw [Hid, hw8]; exact A7.out.set 1 _
      have R8 : Hid (Bx w8 (w.heap.size + 1) [.int .i64 0, .slice none 0 0]) := by rw [Hid, hw8]; exact R7.out.other (a := ⟨w.heap.size, 1, none⟩) (by dsimp only; omega) _
      have D8 : Hid (DFr dSub w1.heap.size w2.heap.size w8 (some ⟨g, 0, none⟩) c us) := by rw [Hid, hw8]; exact D7.out.keep dSub_ok fun q h1 _ _ => Below.heap_setCell _ _ _ _ (by dsimp only; omega)
      have F8 : Hid (hSub.Fresh w4.heap.size w7.heap.size w8 go qc (us.take k ++ us.drop (k + 1))) := by rw [Hid, hw8]; exact F7.out.setBelow (a := ⟨w.heap.size, 1, none⟩) hB0s _
      have hB8 : Below w.heap.size w w8 := by rw [hw8]; exact (hB4.trans (B7.out.mono hB4.size)).setCell (p := ⟨w.heap.size, 1, none⟩) (by dsimp only; omega) _
      have hs7 : w4.heap.size ≤ w7.heap.size := B7.out.size
      have hz8 : w8.heap.size = w7.heap.size := by rw [hw8]; simp [World.setCell]
      have HZ8 := hid hz8
      have hku3 : k < us.length := by rw [HUL.out]; omega
      have E8 := hid (del_fr D8.out hku3 (F8.out.wide (by omega) (Nat.le_refl _)) (by omega))
      have AP0 := apart_del D8.out hku3
      have HI8 : kI.Fresh w1.heap.size w2.heap.size w8 (el us k).2.2.2.2.1 (el us k).2.2.2.2.2.1 (el us k).2.2.2.2.2.2 := D8.out.2.1 k hku3
      rw [← HEU.out] at AP0 HI8
      have AP : Hid (Apart (us.take k ++ us.drop (k + 1)) uo q) := AP0
      have I8 : Hid (kI.Fresh w1.heap.size w2.heap.size w8 uo uc q) := HI8
      have HV8 := hid (map_del (k := k) HU.out)
      have HW8 := hid hw8
      clear hw8 hz8 a70 a71 af71 A7 R7 D7 F7 D8 F8 AP0 HI8
      rw [← HW8.out]
      have p0 := P8.out.c 0 rfl
      have p1 := P8.out.c 1 rfl
      have r0 := R8.out.c 0 rfl
      have rf0 := R8.out.f 0 rfl
      have r1 := R8.out.c 1 rfl
      have rf1 := R8.out.f 1 rfl
      have rz := R8.out.size
      have hl9 : ((ts.map valSub).take k ++ (ts.map valSub).drop (k + 1)).length = ts.length - 1 := by simp; omega
      go_wp2
      refine bodyPost_ret (v := .tuple #[.agg #[.int .i64 sd, .slice go (ts.length - 1) qc], .slice uo q.length uc, .int .i64 0]) (by simp [results, Try.results29, go_sem, r0, r1]) rfl ?_
      rw [HR.out]
      have hzv := HZ8.out
      refine ⟨⟨go, qc, (us.take k ++ us.drop (k + 1)), uo, uc, by rw [hl9], HV8.out, ?_, ?_, AP.out, ?_⟩, (hB8.setCell (p := ⟨w.heap.size + 1, 0, none⟩) (by dsimp only; omega) _).setCell (p := ⟨w.heap.size + 1, 1, none⟩) (by dsimp only; omega) _⟩
      · exact DFr.wide dSub_ok (DFr.keep dSub_ok E8.out fun q h1 _ _ => by rw [Below.heap_setCell _ _ _ _ (by dsimp only; omega), Below.heap_setCell _ _ _ _ (by dsimp only; omega)]) (by omega) (by simp [World.setCell]; omega)
      · exact Kind.Fresh.wide (Kind.Fresh.keep I8.out fun q h1 _ _ => by rw [Below.heap_setCell _ _ _ _ (by dsimp only; omega), Below.heap_setCell _ _ _ _ (by dsimp only; omega)]) (by omega) (by simp [World.setCell]; omega)
      · intro _ e0
        obtain ⟨e1, e2⟩ := List.append_eq_nil_iff.1 e0
        have e := Z7.out e1 e2
        simp at e
        exact e.2.2
end Go.Proofs.Ytimkadnnhfllnaa
