
/- Topics copied by the specification. No conditions but those written. -/
import Derived.Test.YtimkadnnhfllnaaTc
namespace Go.Proofs.Ytimkadnnhfllnaa
open Go.RowKit

theorem run_append_none2 {P : Program} {w : World} (base : Nat) (t ty e : TypeId) (i : TypeInfo) (size c : Nat) (ht : P.underlying t = some (.slice e)) (hi : P.info? e = some i) (v : Value) (n : Nat) (xs : List Value) (hown : w.ownsRow base e size v n xs) :
    (Builtin.append_ #[t, t] ty #[v, .slice none 0 c]).run P w = .ok v w := by
  rcases hown.2 with ⟨rfl, rfl⟩ | ⟨g, cap, cur, rfl, _, _, hnc, _⟩
  · simp [Builtin.append_, run_underlying ht, sizeOf, typeInfo, hi, Builtin.lenOf, Builtin.firstCells]
  · simp [Builtin.append_, run_underlying ht, sizeOf, typeInfo, hi, Builtin.lenOf, Builtin.firstCells, hnc, storeCells]
theorem Kind.app2 {α : Type} {K : Kind α} [Inhabited α] (hK : K.Ok) {ops : Array Oper} {rest : List Oper} {o : Oper} {a : Act} {Q : Exit → Act → World → Prop} (W : World) (hg : o.guard = none) (s x : Operand) (hop : o.op = Op.call { callee := Callee.builtin Builtin.append, args := #[s, x], argTypes := #[K.st, K.st] })
    (lo : Nat) (v : Value) (xs : List α) (hs : a.eval s = v) (hown : K.Own lo W v xs) (hlo : lo ≤ W.heap.size)
    (ao : Option Addr) (ys : List α) (m c : Nat) (hx : a.eval x = .slice ao m c) (hm : ys.length = m) (n : Nat) (hz : K.In n W ao ys) (hl : xs.length + ys.length ≤ 4194304)
    (hk : ∀ v' w', K.Own lo w' v' (xs ++ ys) → Below lo W w' → W.grownBy w' v.ownBlock → (v ≠ .slice none 0 0 → v' ≠ .slice none 0 0) → wpList Try.prog ops Q rest (a.put o.dst v') w') :
    wpList Try.prog ops Q (o :: rest) a W := by
  obtain ⟨i0, z0, hin, hz0, hz1, hz2, hz3⟩ := hK.info
  cases ao with
  | none =>
    have hy : ys = [] := by rcases hz with h | ⟨b, off, e, _⟩; exact h; cases e
    subst hy
    subst hm
    have hrun := run_append_none2 (P := Try.prog) (w := W) lo K.st o.type K.ty i0 K.sz c hK.und hin v xs.length (K.flat xs) hown
    refine wpList_plain hg fun K' hK' => ?_
    unfold Oper.wp
    simp [execOp, hop, resolve, invoke, builtin, hs, hx, hrun, Result.andThen]
    exact hK' _ _ (hk v W (by simpa using hown) (Below.refl _ _) ⟨rfl, rfl, rfl, Nat.le_refl _, fun _ _ _ => rfl⟩ id)
  | some ad =>
    subst hm
    refine wpList_append_own W hg s x K.st hop lo K.ty i0 z0 K.sz i0.bytes hK.und hin hz0 hz1 rfl hz2 hK.pos v xs.length (K.flat xs) hs hown ad ys.length c (K.flat ys) hx (K.flat_len ys) hz.src (K.flat_one ys) (by unfold maxLen; omega) ?_ hlo ?_
    · have : (xs.length + ys.length) * i0.bytes ≤ 4194304 * 4096 := Nat.mul_le_mul hl hz3
      omega
    · intro v' w' ho hgr hnil
      refine hk v' w' ?_ (hown.belowG hgr hlo) hgr fun hv e => hv (hnil.1 e).1
      unfold Kind.Own
      rw [K.flat_app, List.length_append]; exact ho
theorem hSub_one {n : Nat} {W : World} {p : Nat} {nd kap dp : Int} {dr : Bool} {qo : Option Addr} {qc : Nat} {q : List Int} (hp : p < n) (h : Bx W p [.int .i64 nd, .int .i64 kap, .bool dr, .int .i64 dp, .slice qo q.length qc]) : hSub.In n W (some ⟨p, 0, none⟩) [((nd, kap, dr, dp, (qo, qc, q)) : LSub)] := by
  refine Kind.In.mk1 hp fun i hi => ?_
  rw [Nat.zero_add]
  have hi' : i < 5 := hi
  rcases (show i = 0 ∨ i = 1 ∨ i = 2 ∨ i = 3 ∨ i = 4 from by omega) with rfl | rfl | rfl | rfl | rfl
  · exact h.c 0 rfl
  · exact h.c 1 rfl
  · exact h.c 2 rfl
  · exact h.c 3 rfl
  · exact h.c 4 rfl
theorem LaidD.grown {A : Type} [Inhabited A] {D : Deep A} (hD : D.Ok) {lo lo' k : Nat} {W W' : World} {ts us : List A} {v : Value} (h : LaidD D lo W ts k) (ho : D.K.Own lo' W v us) (hg : W.grownBy W' v.ownBlock) : LaidD D lo W' ts k := by
  refine ⟨h.len, fun j hj => hD.wide (hD.keep (h.row j hj) fun b hob => ?_) (Nat.le_refl _) hg.size, h.off⟩
  obtain ⟨_, _, h3, cur, t, h4, h5⟩ := hD.lt (h.row j hj) hob
  refine hg.block b h3 fun e => ?_
  rcases ho.2 with ⟨e2, _⟩ | ⟨g, cc, cur2, e2, _, hh, _⟩
  · subst e2; simp [Value.ownBlock] at e
  · subst e2; simp [Value.ownBlock] at e; subst e
    rw [h4] at hh; simp at hh
    exact h5 hh.2
theorem own_form {lo : Nat} {W : World} {o : Option Addr} {n c : Nat} {xs : List LSub} (h : hSub.Own lo W (.slice o n c) xs) : (o = none ∧ c = 0) ∨ ∃ g, o = some ⟨g, 0, none⟩ := by
  rcases h.2 with ⟨e, _⟩ | ⟨g, cap, cur, e, _⟩
  · simp at e; exact .inl ⟨e.1, e.2.2⟩
  · simp at e; exact .inr ⟨g, e.1⟩
/-- A topic in its own memory, nil or not nil from its block's head on, as an ending. -/
def AnsT2 (w : World) (sd : Int) (ps : List PSub) (e : Ending) (w' : World) : Prop := (∃ o c us, e = .returned (.agg #[.int .i64 sd, .slice o ps.length c]) ∧ us.map valSub = ps ∧ DFr dSub w.heap.size w'.heap.size w' o c us ∧ ((o = none ∧ c = 0) ∨ ∃ g, o = some ⟨g, 0, none⟩)) ∧ Below w.heap.size w w'
set_option maxRecDepth 10000 in
set_option maxHeartbeats 16000000 in
theorem l9Own_st (sd : Int) (ao : Option Addr) (cap : Nat) (ts : List LSub) (w : World) (hl : ts.length ≤ 1048576) (hf : Fits ts) (hz : DIn dSub w.heap.size w ao ts) :
    Calls Try.prog 18 #[.agg #[.int .i64 sd, .slice ao ts.length cap]] w fun e w' => AnsT2 w sd (ts.map valSub) e w' := by
  have HZ := hid hz
  have HF := hid hf
  clear hz hf
  have hB0 := below2 w (.cells #[.int .i64 sd, .slice ao ts.length cap] 25) (.cells #[.int .i64 0, .slice none 0 0] 25)
  have R0 : Hid (Bx ((w.alloc (.cells #[.int .i64 sd, .slice ao ts.length cap] 25)).alloc (.cells #[.int .i64 0, .slice none 0 0] 25)) (w.heap.size + 1) [.int .i64 0, .slice none 0 0]) := Bx.new [.int .i64 0, .slice none 0 0] _ (by simp)
  have A0 : Hid (Bx ((w.alloc (.cells #[.int .i64 sd, .slice ao ts.length cap] 25)).alloc (.cells #[.int .i64 0, .slice none 0 0] 25)) w.heap.size [.int .i64 sd, .slice ao ts.length cap]) := (Bx.new [.int .i64 sd, .slice ao ts.length cap] _ rfl).alloc _
  go_enter Try.func18, Try.ntmps18
  go_wp2
  go_loopw [3, 9] (fun u i wr => ∃ (k : Nat) (us : List LSub) (v : Value), v = u ∧ k ≤ ts.length ∧ i = .int .i64 (k : Int) ∧ us.length = k ∧ Hid (us.map valSub = (ts.take k).map valSub) ∧ Hid (hSub.Own (w.heap.size + 1 + 1) wr v us) ∧ Hid (LaidD dSub (w.heap.size + 1 + 1) wr us k) ∧ Hid (Bx wr (w.heap.size + 1) [.int .i64 0, .slice none 0 0]) ∧ Hid (Bx wr w.heap.size [.int .i64 sd, .slice ao ts.length cap]) ∧ Below w.heap.size w wr ∧ w.heap.size + 1 + 1 ≤ wr.heap.size) (fun _ i _ => ts.length - (intOf i).toNat)
  case atStart => exact ⟨0, [], _, rfl, Nat.zero_le _, rfl, rfl, by simp [Hid], Kind.Own.nil _ _ _, LaidD.zero _ _, R0, A0, hB0, by simp⟩
  case round =>
    clear hB0 R0 A0
    obtain ⟨k, us, v, rfl, hk, rfl, hul, hV, hO, hD, hR, hA, hB, hs⟩ := hrel
    by_cases hlt : k < ts.length
    · obtain ⟨b0, off, rfl, hb, hc⟩ := hSub_at HZ.out.1 hlt
      have d1 := (hB.cell (p := ⟨b0, off + k * 5, none⟩) hb).trans (hc k hlt).1
      have d2 := (hB.cell (p := ⟨b0, off + k * 5 + 1, none⟩) hb).trans (hc k hlt).2.1
      have d3 := (hB.cell (p := ⟨b0, off + k * 5 + 2, none⟩) hb).trans (hc k hlt).2.2.1
      have d4 := (hB.cell (p := ⟨b0, off + k * 5 + 3, none⟩) hb).trans (hc k hlt).2.2.2.1
      have d5 := (hB.cell (p := ⟨b0, off + k * 5 + 4, none⟩) hb).trans (hc k hlt).2.2.2.2
      have hI := HZ.out.2 k hlt
      have hfk := HF.out _ (el_mem hlt)
      have HTK := hid (take_succ_el hlt)
      obtain ⟨⟨nd, kap, dr, dp, ⟨qo, qc, q⟩⟩, ex⟩ : ∃ v, v = el ts k := ⟨_, rfl⟩
      rw [← ex] at d1 d2 d3 d4 d5 hI hfk HTK
      have HI : Hid (kI.In w.heap.size w qo q) := hI
      clear ex hc hI
      dsimp only at d1 d2 d3 d4 d5 hfk
      have hI1 := hid (HI.out.below (hB.trans ((below2 wr (.cells #[.int .i64 nd, .int .i64 kap, .bool dr, .int .i64 dp, .slice qo q.length qc] 36) (.cells #[] 3)).mono hB.size)))
      have N1 : Hid (kI.Own (wr.heap.size + 1) ((wr.alloc (.cells #[.int .i64 nd, .int .i64 kap, .bool dr, .int .i64 dp, .slice qo q.length qc] 36)).alloc (.cells #[] 3)) (.slice (some ⟨wr.heap.size + 1, 0, none⟩) 0 0) []) := by
        have h := Kind.Own.new kI (wr.heap.size + 1) (wr.alloc (.cells #[.int .i64 nd, .int .i64 kap, .bool dr, .int .i64 dp, .slice qo q.length qc] 36)) (by simp)
        rw [World.size_alloc] at h; exact h
      have hfk2 : ([] : List Int).length + q.length ≤ 4194304 := by simp; omega
      clear HI
      go_upto_region 6 with (at_builtin; refine Kind.app2 kI_ok ((wr.alloc (.cells #[.int .i64 nd, .int .i64 kap, .bool dr, .int .i64 dp, .slice qo q.length qc] 36)).alloc (.cells #[] 3)) rfl (.tmp 13) (.tmp 15) rfl (wr.heap.size + 1) (.slice (some ⟨wr.heap.size + 1, 0, none⟩) 0 0) [] rfl N1.out (by simp) qo q q.length qc rfl rfl _ hI1.out hfk2 ?_; intro v1 w1 hO1 hb1 hG1 hn1; obtain ⟨qo', qc', rfl, _, hF1⟩ := Kind.Own.fresh (xs := q) hO1; have hbw : Below wr.heap.size wr w1 := (below2 wr (.cells #[.int .i64 nd, .int .i64 kap, .bool dr, .int .i64 dp, .slice qo q.length qc] 36) (.cells #[] 3)).trans (hb1.mono (by omega)); have X1 : Bx w1 wr.heap.size [.int .i64 nd, .int .i64 kap, .bool dr, .int .i64 dp, .slice qo q.length qc] := Bx.below (n := wr.heap.size + 1) (W := ((wr.alloc (.cells #[.int .i64 nd, .int .i64 kap, .bool dr, .int .i64 dp, .slice qo q.length qc] 36)).alloc (.cells #[] 3))) ((Bx.new [.int .i64 nd, .int .i64 kap, .bool dr, .int .i64 dp, .slice qo q.length qc] _ rfl).alloc _) hb1 (by omega); have x0 := X1.c 0 rfl; have x1 := X1.c 1 rfl; have x2 := X1.c 2 rfl; have x3 := X1.c 3 rfl; have x4 := X1.c 4 rfl; have xf4 := X1.f 4 rfl; have F1 := hid hF1; have XX := hid X1; clear hn1 hO1 hG1 hF1 X1 hb1)
      obtain ⟨V4, hV4⟩ : ∃ V, V = (w1.setCell ⟨wr.heap.size, 4, none⟩ (.slice qo' q.length qc')) := ⟨_, rfl⟩
      rw [← hV4]
      have hb4 : Below wr.heap.size wr V4 := by rw [hV4]; exact hbw.setCell (p := ⟨wr.heap.size, 4, none⟩) (by dsimp only; omega) _
      have hs4 : wr.heap.size < V4.heap.size := by rw [hV4]; have := XX.out.size; simpa [World.setCell] using this
      have hB4 := hB.trans (hb4.mono hB.size)
      have O4 := hid (hO.out.below hb4)
      have R4 := hid (hR.out.later hb4)
      have A4 := hid (hA.out.later hb4)
      have X4 : Hid (Bx V4 wr.heap.size [.int .i64 nd, .int .i64 kap, .bool dr, .int .i64 dp, .slice qo' q.length qc']) := by rw [Hid, hV4]; exact XX.out.set 4 _
      have F4 : Hid (kI.Fresh (wr.heap.size + 1) V4.heap.size V4 qo' qc' q) := by rw [Hid, hV4]; exact (F1.out.setBelow (a := ⟨wr.heap.size, 4, none⟩) (by dsimp only; omega) _).low (Nat.le_refl _)
      have D4 := hid (LaidD.add dSub_ok (a := (nd, kap, dr, dp, (qo', qc', q))) hD.out hb4 hs (Kind.Fresh.wide F4.out (by omega) (Nat.le_refl _)))
      clear hO hR hA hD XX F1 hbw hV4 hb4 F4 x0 x1 x2 x3 x4 xf4 d1 d2 d3 d4 d5
      have x0 := X4.out.c 0 rfl
      have x1 := X4.out.c 1 rfl
      have x2 := X4.out.c 2 rfl
      have x3 := X4.out.c 3 rfl
      have x4 := X4.out.c 4 rfl
      have HA := hid (O4.out.below (below1 V4 (.cells #[.int .i64 nd, .int .i64 kap, .bool dr, .int .i64 dp, .slice qo' q.length qc'] 36)))
      have HN : Hid (hSub.In (V4.heap.size + 1) (V4.alloc (.cells #[.int .i64 nd, .int .i64 kap, .bool dr, .int .i64 dp, .slice qo' q.length qc'] 36)) (some ⟨V4.heap.size, 0, none⟩) [((nd, kap, dr, dp, (qo', qc', q)) : LSub)]) := hSub_one (by omega) (Bx.new _ _ rfl)
      have hll : us.length + 1 ≤ 4194304 := by omega
      have hBa := Below.allocS hB4 (.cells #[.int .i64 nd, .int .i64 kap, .bool dr, .int .i64 dp, .slice qo' q.length qc'] 36)
      have DA := hid (D4.out.later dSub_ok (below1 V4 (.cells #[.int .i64 nd, .int .i64 kap, .bool dr, .int .i64 dp, .slice qo' q.length qc'] 36)))
      have RA := hid (R4.out.alloc (.cells #[.int .i64 nd, .int .i64 kap, .bool dr, .int .i64 dp, .slice qo' q.length qc'] 36))
      have AA := hid (A4.out.alloc (.cells #[.int .i64 nd, .int .i64 kap, .bool dr, .int .i64 dp, .slice qo' q.length qc'] 36))
      have HV2 : Hid ((us ++ [((nd, kap, dr, dp, (qo', qc', q)) : LSub)]).map valSub = (ts.take (k + 1)).map valSub) := by rw [Hid, List.map_append, hV.out, HTK.out, List.map_append]; rfl
      clear O4 R4 A4 D4 X4
      go_wp2_with (at_builtin; refine Kind.app hSub_ok (V4.alloc (.cells #[.int .i64 nd, .int .i64 kap, .bool dr, .int .i64 dp, .slice qo' q.length qc'] 36)) rfl (.tmp 18) (.tmp 20) rfl (w.heap.size + 1 + 1) v us rfl HA.out (by simp; omega) (some ⟨V4.heap.size, 0, none⟩) [((nd, kap, dr, dp, (qo', qc', q)) : LSub)] 1 1 rfl rfl (by simp) _ HN.out hll ?_; intro v' w' hO' hB' hG' hn'; have hB5 : Below w.heap.size w w' := hBa.trans (hB'.mono (by omega)); have hs5 : w.heap.size + 1 + 1 ≤ w'.heap.size := (by have := hB'.size; simp at this; omega); have D5 := hid (DA.out.grown dSub_ok HA.out hG'); have R5 := hid (RA.out.below hB' (by omega)); have A5 := hid (AA.out.below hB' (by omega)); have O5 := hid hO'; clear hO' hB' hG' hn')
      go_roundw
      case rel => exact ⟨k + 1, us ++ [(nd, kap, dr, dp, (qo', qc', q))], v', rfl, by omega, by go_num, by simp; omega, HV2, O5, D5, R5, A5, hB5, hs5⟩
      case measure => simp [intOf]; omega
    · obtain rfl : k = ts.length := by omega
      rw [List.take_length] at hV
      obtain ⟨qo, qc, rfl, _, hF⟩ := hO.out.fresh
      have HF2 := hid (hD.out.fr dSub_ok (Nat.le_refl _) hF)
      have HFO := hid (own_form hO.out)
      have r0 := hR.out.c 0 rfl
      have rf0 := hR.out.f 0 rfl
      have r1 := hR.out.c 1 rfl
      have rf1 := hR.out.f 1 rfl
      have a0 := hA.out.c 0 rfl
      have a1 := hA.out.c 1 rfl
      have af1 := hA.out.f 1 rfl
      have rz := hR.out.size
      clear hF hO hD
      go_wp2
      refine bodyPost_ret (v := .agg #[.int .i64 sd, .slice qo ts.length qc]) (by simp [results, Try.results18, go_sem, r0, r1]) rfl ⟨⟨qo, qc, us, by rw [List.length_map], hV.out, ?_, HFO.out⟩, ?_⟩
      · exact DFr.wide (lo := w.heap.size + 1 + 1) (hi := wr.heap.size) dSub_ok (DFr.keep dSub_ok HF2.out fun q h1 _ _ => by rw [Below.heap_setCell _ _ _ _ (by dsimp only; omega), Below.heap_setCell _ _ _ _ (by dsimp only; omega), Below.heap_setCell _ _ _ _ (by dsimp only; omega)]) (by omega) (by simp [World.setCell])
      · exact ((hB.setCell (p := ⟨w.heap.size, 1, none⟩) (by dsimp only; omega) _).setCell (p := ⟨w.heap.size + 1, 0, none⟩) (by dsimp only; omega) _).setCell (p := ⟨w.heap.size + 1, 1, none⟩) (by dsimp only; omega) _
theorem l9Own_any (sd : Int) (ao : Option Addr) (cap : Nat) (ts : List LSub) (w : World) (hl : ts.length ≤ 1048576) (hf : Fits ts) (hz : DIn dSub w.heap.size w ao ts) :
    Calls Try.prog 18 #[.agg #[.int .i64 sd, .slice ao ts.length cap]] w fun e w' => AnsT w sd (ts.map valSub) e w' :=
  (l9Own_st sd ao cap ts w hl hf hz).mono fun _ _ ⟨⟨o, c, us, h1, h2, h3, _⟩, h4⟩ => ⟨⟨o, c, us, h1, h2, h3⟩, h4⟩
end Go.Proofs.Ytimkadnnhfllnaa
