
/- A hub copied by the program. No conditions but those written. -/
import Derived.Test.YtlnjhajdbofhlaaKj
import Derived.Test.YtlnjhajdbofhlaaKn
namespace Go.Proofs.Ytlnjhajdbofhlaa
open Go.RowKit

theorem hChan_one {n : Nat} {W : World} {p : Nat} {kap : Int} {cl : Bool} {bo so ro : Option Addr} {bc sc rc : Nat} {b : List Int} {s r : List (Int × Int × Int)} (hp : p < n) (h : Bx W p [.int .i64 kap, .bool cl, .slice bo b.length bc, .slice so s.length sc, .slice ro r.length rc]) : hChan.In n W (some ⟨p, 0, none⟩) [((kap, cl, (bo, bc, b), (so, sc, s), (ro, rc, r)) : LChan)] := by
  refine Kind.In.mk1 hp fun i hi => ?_
  rw [Nat.zero_add]
  have hi' : i < 5 := hi
  rcases (show i = 0 ∨ i = 1 ∨ i = 2 ∨ i = 3 ∨ i = 4 from by omega) with rfl | rfl | rfl | rfl | rfl
  · exact h.c 0 rfl
  · exact h.c 1 rfl
  · exact h.c 2 rfl
  · exact h.c 3 rfl
  · exact h.c 4 rfl
theorem LaidD.grown {A : Type} [Inhabited A] {D : Deep A} (hD : D.Ok) {lo lo' k : Nat} {W W' : World} {ts us : List A} {v : Value} (h : LaidD D lo W ts k) (ho : D.K.Own lo' W v us) (hg : W.grownBy W' v.ownBlock) : LaidD D lo W' ts k := by
  refine ⟨h.len, fun j hj => hD.wide (hD.keep (h.row j hj) fun b hob => ?_) (Nat.le_refl _) hg.size, h.off⟩
  obtain ⟨_, _, h3, cur, t, h4, h5⟩ := hD.lt (h.row j hj) hob
  refine hg.block b h3 fun e => ?_
  rcases ho.2 with ⟨e2, _⟩ | ⟨g, cc, cur2, e2, _, hh, _⟩
  · subst e2; simp [Value.ownBlock] at e
  · subst e2; simp [Value.ownBlock] at e; subst e
    rw [h4] at hh; simp at hh
    exact h5 hh.2
/-- A hub in its own memory, as an ending. -/
def AnsHub (w : World) (ps : List PChan) (e : Ending) (w' : World) : Prop := (∃ o c us, e = .returned (.agg #[.slice o ps.length c]) ∧ us.map valChan = ps ∧ DFr dChan w.heap.size w'.heap.size w' o c us) ∧ Below w.heap.size w w'
set_option maxRecDepth 10000 in
set_option maxHeartbeats 16000000 in
theorem copyHub_any (ao : Option Addr) (cap : Nat) (ts : List LChan) (w : World) (hl : ts.length ≤ 1048576) (ht : totChan ts ≤ 1048576) (hz : DIn dChan w.heap.size w ao ts) :
    Calls Try.prog 100 #[.agg #[.slice ao ts.length cap]] w fun e w' => AnsHub w (ts.map valChan) e w' := by
  have HZ := hid hz
  have HTT := hid ht
  clear hz ht
  have hB0 := below2 w (.cells #[.slice ao ts.length cap] 56) (.cells #[.slice none 0 0] 56)
  have R0 : Hid (Bx ((w.alloc (.cells #[.slice ao ts.length cap] 56)).alloc (.cells #[.slice none 0 0] 56)) (w.heap.size + 1) [.slice none 0 0]) := Bx.new [.slice none 0 0] _ (by simp)
  go_enter Try.func100, Try.ntmps100
  go_wp2
  go_loopw [3, 9] (fun u i wr => ∃ (k : Nat) (us : List LChan) (v : Value), v = u ∧ k ≤ ts.length ∧ i = .int .i64 (k : Int) ∧ us.length = k ∧ Hid (us.map valChan = (ts.take k).map valChan) ∧ Hid (hChan.Own (w.heap.size + 1 + 1) wr v us) ∧ Hid (LaidD dChan (w.heap.size + 1 + 1) wr us k) ∧ Hid (Bx wr (w.heap.size + 1) [.slice none 0 0]) ∧ Below w.heap.size w wr ∧ w.heap.size + 1 + 1 ≤ wr.heap.size) (fun _ i _ => ts.length - (intOf i).toNat)
  case atStart => exact ⟨0, [], _, rfl, Nat.zero_le _, rfl, rfl, by simp [Hid], Kind.Own.nil _ _ _, LaidD.zero _ _, R0, hB0, by simp⟩
  case round =>
    obtain ⟨k, us, v, rfl, hk, rfl, hul, hV, hO, hD, hR, hB, hs⟩ := hrel
    by_cases hlt : k < ts.length
    · obtain ⟨b0, off, rfl, hb, hc⟩ := hChan_at HZ.out.1 hlt
      have e1 := (hB.cell (p := ⟨b0, off + k * 5, none⟩) hb).trans (hc k hlt).1
      have e2 := (hB.cell (p := ⟨b0, off + k * 5 + 1, none⟩) hb).trans (hc k hlt).2.1
      have e3 := (hB.cell (p := ⟨b0, off + k * 5 + 2, none⟩) hb).trans (hc k hlt).2.2.1
      have e4 := (hB.cell (p := ⟨b0, off + k * 5 + 3, none⟩) hb).trans (hc k hlt).2.2.2.1
      have e5 := (hB.cell (p := ⟨b0, off + k * 5 + 4, none⟩) hb).trans (hc k hlt).2.2.2.2
      have hI := HZ.out.2 k hlt
      have hsz := totChan_el hlt
      have HTK := hid (take_succ_el hlt)
      obtain ⟨⟨kap, cl, ⟨bo, bc, b⟩, ⟨so, sc, s⟩, ⟨ro, rc, r⟩⟩, ex⟩ : ∃ v, v = el ts k := ⟨_, rfl⟩
      rw [← ex] at e1 e2 e3 e4 e5 hI hsz HTK
      have HI : Hid (InChan w.heap.size w bo b so s ro r) := hI
      have hsz3 : b.length + s.length + r.length ≤ 1048576 := by have := HTT.out; simp [sizeChan] at hsz; omega
      clear ex hc hI hsz
      dsimp only at e1 e2 e3 e4 e5
      obtain ⟨VV, hVV⟩ : ∃ VV, VV = wr.alloc (.cells #[.int .i64 kap, .bool cl, .slice bo b.length bc, .slice so s.length sc, .slice ro r.length rc] 26) := ⟨_, rfl⟩
      have hbV : Below wr.heap.size wr VV := by rw [hVV]; exact below1 _ _
      have hBV := hB.trans (hbV.mono hB.size)
      have OV := hid (hO.out.below hbV)
      have DV := hid (hD.out.later dChan_ok hbV)
      have RV := hid (hR.out.later hbV)
      have hsV : w.heap.size + 1 + 1 ≤ VV.heap.size := Nat.le_trans hs hbV.size
      have HVV := hid hVV
      clear hbV hVV hO hD hR
      go_wp2_with fail
      rw [← HVV.out]
      refine (copyChan_any kap cl bo bc b so sc s ro rc r VV (by omega) (by omega) (by omega) ((HI.out.below hBV).up hBV.size)).mono ?_
      rintro e w4 ⟨⟨bo', bc', so', sc', ro', rc', rfl, hF4⟩, hb4⟩
      have hB4 := hBV.trans (hb4.mono hBV.size)
      have O4 := hid (OV.out.below hb4)
      have R4 := hid (RV.out.later hb4)
      have D4 := hid (LaidD.add dChan_ok (a := (kap, cl, (bo', bc', b), (so', sc', s), (ro', rc', r))) DV.out hb4 hsV hF4)
      have hs4 : w.heap.size + 1 + 1 ≤ w4.heap.size := Nat.le_trans hsV hb4.size
      have HA := hid (O4.out.below (below1 w4 (.cells #[.int .i64 kap, .bool cl, .slice bo' b.length bc', .slice so' s.length sc', .slice ro' r.length rc'] 26)))
      have HN : Hid (hChan.In (w4.heap.size + 1) (w4.alloc (.cells #[.int .i64 kap, .bool cl, .slice bo' b.length bc', .slice so' s.length sc', .slice ro' r.length rc'] 26)) (some ⟨w4.heap.size, 0, none⟩) [((kap, cl, (bo', bc', b), (so', sc', s), (ro', rc', r)) : LChan)]) := hChan_one (by omega) (Bx.new _ _ rfl)
      have hll : us.length + 1 ≤ 4194304 := by omega
      have hBa := Below.allocS hB4 (.cells #[.int .i64 kap, .bool cl, .slice bo' b.length bc', .slice so' s.length sc', .slice ro' r.length rc'] 26)
      have DA := hid (D4.out.later dChan_ok (below1 w4 (.cells #[.int .i64 kap, .bool cl, .slice bo' b.length bc', .slice so' s.length sc', .slice ro' r.length rc'] 26)))
      have RA := hid (R4.out.alloc (.cells #[.int .i64 kap, .bool cl, .slice bo' b.length bc', .slice so' s.length sc', .slice ro' r.length rc'] 26))
      have HV2 : Hid ((us ++ [((kap, cl, (bo', bc', b), (so', sc', s), (ro', rc', r)) : LChan)]).map valChan = (ts.take (k + 1)).map valChan) := by rw [Hid, List.map_append, hV.out, HTK.out, List.map_append]; rfl
      clear hb4 hF4 OV DV RV HVV e1 e2 e3 e4 e5 O4 R4 D4
      go_wp2_with (at_builtin; refine Kind.app hChan_ok (w4.alloc (.cells #[.int .i64 kap, .bool cl, .slice bo' b.length bc', .slice so' s.length sc', .slice ro' r.length rc'] 26)) rfl (.tmp 13) (.tmp 16) rfl (w.heap.size + 1 + 1) v us rfl HA.out (by simp; omega) (some ⟨w4.heap.size, 0, none⟩) [((kap, cl, (bo', bc', b), (so', sc', s), (ro', rc', r)) : LChan)] 1 1 rfl rfl (by simp) _ HN.out hll ?_; intro v' w' hO' hB' hG' hn'; have hB5 : Below w.heap.size w w' := hBa.trans (hB'.mono (by omega)); have hs5 : w.heap.size + 1 + 1 ≤ w'.heap.size := (by have := hB'.size; simp at this; omega); have D5 := hid (DA.out.grown dChan_ok HA.out hG'); have R5 := hid (RA.out.below hB' (by omega)); have O5 := hid hO'; clear hO' hB' hG' hn')
      go_roundw
      case rel => exact ⟨k + 1, us ++ [(kap, cl, (bo', bc', b), (so', sc', s), (ro', rc', r))], v', rfl, by omega, by go_num, by simp; omega, HV2, O5, D5, R5, hB5, hs5⟩
      case measure => simp [intOf]; omega
    · obtain rfl : k = ts.length := by omega
      rw [List.take_length] at hV
      obtain ⟨qo, qc, rfl, _, hF⟩ := hO.out.fresh
      have HF := hid (hD.out.fr dChan_ok (Nat.le_refl _) hF)
      have r0 := hR.out.c 0 rfl
      have rf0 := hR.out.f 0 rfl
      have rz := hR.out.size
      clear hF hO hD
      go_wp2
      refine bodyPost_ret (v := .agg #[.slice qo ts.length qc]) (by simp [results, Try.results100, go_sem, r0]) rfl ⟨⟨qo, qc, us, by rw [List.length_map], hV.out, ?_⟩, ?_⟩
      · refine DFr.wide (lo := w.heap.size + 1 + 1) (hi := wr.heap.size) dChan_ok (DFr.keep dChan_ok HF.out fun q h1 _ _ => Below.heap_setCell wr _ _ q (by dsimp only; omega)) (by omega) (by simp [World.setCell])
      · exact hB.setCell (p := ⟨w.heap.size + 1, 0, none⟩) (by simp) _
end Go.Proofs.Ytlnjhajdbofhlaa
