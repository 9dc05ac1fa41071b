
/- Rows of keepers copied, by the program and by the specification. No conditions but those written. -/
import Derived.Test.YtbpacibfboldcaaDoorKc
namespace Go.Proofs.YtbpacibfboldcaaDoor
open Go.RowKit

theorem hKeeper_one {n : Nat} {W : World} {p : Nat} {kd : Int} {mr : Int} {wi : Int} {up : Int} {ch : Int} {ov : Bool} {ro : Option Addr} {rc : Nat} {r : List (Bool)} {fo : Option Addr} {fc : Nat} {f : List (Int)} (hp : p < n) (h : Bx W p [.int .i64 kd, .int .i64 mr, .int .i64 wi, .int .i64 up, .int .i64 ch, .slice ro r.length rc, .slice fo f.length fc, .bool ov]) : hKeeper.In n W (some ⟨p, 0, none⟩) [((kd, mr, wi, up, ch, (ro, rc, r), (fo, fc, f), ov) : LKeeper)] := by
  refine Kind.In.mk1 hp fun i hi => ?_
  rw [Nat.zero_add]
  have hi' : i < 8 := hi
  rcases (show i = 0 ∨ i = 1 ∨ i = 2 ∨ i = 3 ∨ i = 4 ∨ i = 5 ∨ i = 6 ∨ i = 7 from by omega) with rfl | rfl | rfl | rfl | rfl | rfl | rfl | rfl
  · exact h.c 0 rfl
  · exact h.c 1 rfl
  · exact h.c 2 rfl
  · exact h.c 3 rfl
  · exact h.c 4 rfl
  · exact h.c 5 rfl
  · exact h.c 6 rfl
  · exact h.c 7 rfl
theorem LaidD.grown {A : Type} [Inhabited A] {D : Deep A} (hD : D.Ok) {lo lo' k : Nat} {W W' : World} {ts us : List A} {v : Value} (h : LaidD D lo W ts k) (ho : D.K.Own lo' W v us) (hg : W.grownBy W' v.ownBlock) : LaidD D lo W' ts k := by
  refine ⟨h.len, fun j hj => hD.wide (hD.keep (h.row j hj) fun b hob => ?_) (Nat.le_refl _) hg.size, h.off⟩
  obtain ⟨_, _, h3, cur, t, h4, h5⟩ := hD.lt (h.row j hj) hob
  refine hg.block b h3 fun e => ?_
  rcases ho.2 with ⟨e2, _⟩ | ⟨g, cc, cur2, e2, _, hh, _⟩
  · subst e2; simp [Value.ownBlock] at e
  · subst e2; simp [Value.ownBlock] at e; subst e
    rw [h4] at hh; simp at hh
    exact h5 hh.2
/-- Keepers in their own memory, as an ending. -/
def AnsKs (w : World) (ps : List PKeeper) (e : Ending) (w' : World) : Prop := (∃ o c us, e = .returned (.slice o ps.length c) ∧ us.map valKeeper = ps ∧ DFr dKeeper w.heap.size w'.heap.size w' o c us) ∧ Below w.heap.size w w'
set_option maxRecDepth 10000 in
set_option maxHeartbeats 16000000 in
theorem copyKs_any (ao : Option Addr) (cap : Nat) (ts : List LKeeper) (w : World) (hl : ts.length ≤ 1048576) (hle : ∀ a ∈ ts, (a.2.2.2.2.2.1).2.2.length ≤ 1048576 ∧ (a.2.2.2.2.2.2.1).2.2.length ≤ 1048576) (hz : DIn dKeeper w.heap.size w ao ts) :
    Calls Tryd.prog 49 #[.slice ao ts.length cap] w fun e w' => AnsKs w (ts.map valKeeper) e w' := by
  have HZ := hid hz
  have HF := hid hle
  clear hz hle
  go_enter Tryd.func49, Tryd.ntmps49
  go_wp2
  go_loopw [3, 8] (fun u i wr => ∃ (k : Nat) (us : List LKeeper) (v : Value), v = u ∧ k ≤ ts.length ∧ i = .int .i64 (k : Int) ∧ us.length = k ∧ Hid (us.map valKeeper = (ts.take k).map valKeeper) ∧ Hid (hKeeper.Own w.heap.size wr v us) ∧ Hid (LaidD dKeeper w.heap.size wr us k) ∧ Below w.heap.size w wr) (fun _ i _ => ts.length - (intOf i).toNat)
  case atStart => exact ⟨0, [], _, rfl, Nat.zero_le _, rfl, rfl, by simp [Hid], Kind.Own.nil _ _ _, LaidD.zero _ _, Below.refl _ _⟩
  case round =>
    obtain ⟨k, us, v, rfl, hk, rfl, hul, hV, hO, hD, hB⟩ := hrel
    have hs := hB.size
    by_cases hlt : k < ts.length
    · obtain ⟨b0, off, rfl, hb, hc⟩ := hKeeper_at HZ.out.1 hlt
      have e1 := (hB.cell (p := ⟨b0, off + k * 8, none⟩) hb).trans (hc k hlt).1
      have e2 := (hB.cell (p := ⟨b0, off + k * 8 + 1, none⟩) hb).trans (hc k hlt).2.1
      have e3 := (hB.cell (p := ⟨b0, off + k * 8 + 2, none⟩) hb).trans (hc k hlt).2.2.1
      have e4 := (hB.cell (p := ⟨b0, off + k * 8 + 3, none⟩) hb).trans (hc k hlt).2.2.2.1
      have e5 := (hB.cell (p := ⟨b0, off + k * 8 + 4, none⟩) hb).trans (hc k hlt).2.2.2.2.1
      have e6 := (hB.cell (p := ⟨b0, off + k * 8 + 5, none⟩) hb).trans (hc k hlt).2.2.2.2.2.1
      have e7 := (hB.cell (p := ⟨b0, off + k * 8 + 6, none⟩) hb).trans (hc k hlt).2.2.2.2.2.2.1
      have e8 := (hB.cell (p := ⟨b0, off + k * 8 + 7, none⟩) hb).trans (hc k hlt).2.2.2.2.2.2.2
      have hI := HZ.out.2 k hlt
      have hfk := HF.out _ (el_mem hlt)
      have HTK := hid (take_succ_el hlt)
      obtain ⟨⟨kd, mr, wi, up, ch, ⟨ro, rc, r⟩, ⟨fo, fc, f⟩, ov⟩, ex⟩ : ∃ v, v = el ts k := ⟨_, rfl⟩
      rw [← ex] at e1 e2 e3 e4 e5 e6 e7 e8 hI hfk HTK
      have HI : Hid (InKeeper w.heap.size w ro r fo f) := hI
      clear ex hc hI
      dsimp only at e1 e2 e3 e4 e5 e6 e7 e8 hfk
      obtain ⟨hlr, hlf⟩ := hfk
      obtain ⟨VV, hVV⟩ : ∃ VV, VV = wr.alloc (.cells #[.int .i64 kd, .int .i64 mr, .int .i64 wi, .int .i64 up, .int .i64 ch, .slice ro r.length rc, .slice fo f.length fc, .bool ov] 27) := ⟨_, rfl⟩
      have hbV : Below wr.heap.size wr VV := by rw [hVV]; exact below1 _ _
      have hBV := hB.trans (hbV.mono hB.size)
      have OV := hid (hO.out.below hbV)
      have DV := hid (hD.out.later dKeeper_ok hbV)
      have hsV : w.heap.size ≤ VV.heap.size := Nat.le_trans hs hbV.size
      have HVV := hid hVV
      clear hbV hVV hO hD
      go_wp2_with fail
      rw [← HVV.out]
      refine (copyKeeper_any kd mr wi up ch ov ro rc r fo fc f VV hlr hlf ((HI.out.below hBV).up hBV.size)).mono ?_
      rintro e w4 ⟨⟨ro', rc', fo', fc', rfl, hF4⟩, hb4⟩
      have hB4 := hBV.trans (hb4.mono hBV.size)
      have O4 := hid (OV.out.below hb4)
      have D4 := hid (LaidD.add dKeeper_ok (a := (kd, mr, wi, up, ch, (ro', rc', r), (fo', fc', f), ov)) DV.out hb4 hsV hF4)
      have hs4 : w.heap.size ≤ w4.heap.size := Nat.le_trans hsV hb4.size
      have HA := hid (O4.out.below (below1 w4 (.cells #[.int .i64 kd, .int .i64 mr, .int .i64 wi, .int .i64 up, .int .i64 ch, .slice ro' r.length rc', .slice fo' f.length fc', .bool ov] 27)))
      have HN : Hid (hKeeper.In (w4.heap.size + 1) (w4.alloc (.cells #[.int .i64 kd, .int .i64 mr, .int .i64 wi, .int .i64 up, .int .i64 ch, .slice ro' r.length rc', .slice fo' f.length fc', .bool ov] 27)) (some ⟨w4.heap.size, 0, none⟩) [((kd, mr, wi, up, ch, (ro', rc', r), (fo', fc', f), ov) : LKeeper)]) := hKeeper_one (by omega) (Bx.new _ _ rfl)
      have hll : us.length + 1 ≤ 4194304 := by omega
      have hBa := Below.allocS hB4 (.cells #[.int .i64 kd, .int .i64 mr, .int .i64 wi, .int .i64 up, .int .i64 ch, .slice ro' r.length rc', .slice fo' f.length fc', .bool ov] 27)
      have DA := hid (D4.out.later dKeeper_ok (below1 w4 (.cells #[.int .i64 kd, .int .i64 mr, .int .i64 wi, .int .i64 up, .int .i64 ch, .slice ro' r.length rc', .slice fo' f.length fc', .bool ov] 27)))
      have HV2 : Hid ((us ++ [((kd, mr, wi, up, ch, (ro', rc', r), (fo', fc', f), ov) : LKeeper)]).map valKeeper = (ts.take (k + 1)).map valKeeper) := by rw [Hid, List.map_append, hV.out, HTK.out, List.map_append]; rfl
      clear hb4 hF4 OV DV HVV e1 e2 e3 e4 e5 e6 e7 e8 O4 D4
      go_wp2_with (at_builtin; refine Kind.app hKeeper_ok (w4.alloc (.cells #[.int .i64 kd, .int .i64 mr, .int .i64 wi, .int .i64 up, .int .i64 ch, .slice ro' r.length rc', .slice fo' f.length fc', .bool ov] 27)) rfl (.tmp 12) (.tmp 15) rfl w.heap.size v us rfl HA.out (by simp; omega) (some ⟨w4.heap.size, 0, none⟩) [((kd, mr, wi, up, ch, (ro', rc', r), (fo', fc', f), ov) : LKeeper)] 1 1 rfl rfl (by simp) _ HN.out hll ?_; intro v' w' hO' hB' hG' hn'; have hB5 : Below w.heap.size w w' := hBa.trans (hB'.mono (by omega)); have D5 := hid (DA.out.grown dKeeper_ok HA.out hG'); have O5 := hid hO'; clear hO' hB' hG' hn')
      go_roundw
      case rel => exact ⟨k + 1, us ++ [(kd, mr, wi, up, ch, (ro', rc', r), (fo', fc', f), ov)], v', rfl, by omega, by go_num, by simp; omega, HV2, O5, D5, hB5⟩
      case measure => simp [intOf]; omega
    · obtain rfl : k = ts.length := by omega
      rw [List.take_length] at hV
      obtain ⟨qo, qc, rfl, _, hF⟩ := hO.out.fresh
      have HG := hid (hD.out.fr dKeeper_ok (Nat.le_refl _) hF)
      rw [hul]
      clear hF hO hD
      go_wp2
      go_ret
      exact ⟨⟨qo, qc, us, by rw [List.length_map]; rfl, hV.out, HG.out⟩, hB⟩
set_option maxRecDepth 10000 in
set_option maxHeartbeats 16000000 in
theorem ownKs_any (ao : Option Addr) (cap : Nat) (ts : List LKeeper) (w : World) (hl : ts.length ≤ 1048576) (hle : ∀ a ∈ ts, (a.2.2.2.2.2.1).2.2.length ≤ 1048576 ∧ (a.2.2.2.2.2.2.1).2.2.length ≤ 1048576) (hz : DIn dKeeper w.heap.size w ao ts) :
    Calls Tryd.prog 45 #[.slice ao ts.length cap] w fun e w' => AnsKs w (ts.map valKeeper) e w' := by
  have HZ := hid hz
  have HF := hid hle
  clear hz hle
  go_enter Tryd.func45, Tryd.ntmps45
  go_wp2
  go_loopw [3, 8] (fun u i wr => ∃ (k : Nat) (us : List LKeeper) (v : Value), v = u ∧ k ≤ ts.length ∧ i = .int .i64 (k : Int) ∧ us.length = k ∧ Hid (us.map valKeeper = (ts.take k).map valKeeper) ∧ Hid (hKeeper.Own w.heap.size wr v us) ∧ Hid (LaidD dKeeper w.heap.size wr us k) ∧ Below w.heap.size w wr) (fun _ i _ => ts.length - (intOf i).toNat)
  case atStart => exact ⟨0, [], _, rfl, Nat.zero_le _, rfl, rfl, by simp [Hid], Kind.Own.nil _ _ _, LaidD.zero _ _, Below.refl _ _⟩
  case round =>
    obtain ⟨k, us, v, rfl, hk, rfl, hul, hV, hO, hD, hB⟩ := hrel
    have hs := hB.size
    by_cases hlt : k < ts.length
    · obtain ⟨b0, off, rfl, hb, hc⟩ := hKeeper_at HZ.out.1 hlt
      have e1 := (hB.cell (p := ⟨b0, off + k * 8, none⟩) hb).trans (hc k hlt).1
      have e2 := (hB.cell (p := ⟨b0, off + k * 8 + 1, none⟩) hb).trans (hc k hlt).2.1
      have e3 := (hB.cell (p := ⟨b0, off + k * 8 + 2, none⟩) hb).trans (hc k hlt).2.2.1
      have e4 := (hB.cell (p := ⟨b0, off + k * 8 + 3, none⟩) hb).trans (hc k hlt).2.2.2.1
      have e5 := (hB.cell (p := ⟨b0, off + k * 8 + 4, none⟩) hb).trans (hc k hlt).2.2.2.2.1
      have e6 := (hB.cell (p := ⟨b0, off + k * 8 + 5, none⟩) hb).trans (hc k hlt).2.2.2.2.2.1
      have e7 := (hB.cell (p := ⟨b0, off + k * 8 + 6, none⟩) hb).trans (hc k hlt).2.2.2.2.2.2.1
      have e8 := (hB.cell (p := ⟨b0, off + k * 8 + 7, none⟩) hb).trans (hc k hlt).2.2.2.2.2.2.2
      have hI := HZ.out.2 k hlt
      have hfk := HF.out _ (el_mem hlt)
      have HTK := hid (take_succ_el hlt)
      obtain ⟨⟨kd, mr, wi, up, ch, ⟨ro, rc, r⟩, ⟨fo, fc, f⟩, ov⟩, ex⟩ : ∃ v, v = el ts k := ⟨_, rfl⟩
      rw [← ex] at e1 e2 e3 e4 e5 e6 e7 e8 hI hfk HTK
      have HI : Hid (InKeeper w.heap.size w ro r fo f) := hI
      clear ex hc hI
      dsimp only at e1 e2 e3 e4 e5 e6 e7 e8 hfk
      obtain ⟨hlr, hlf⟩ := hfk
      obtain ⟨VV, hVV⟩ : ∃ VV, VV = wr.alloc (.cells #[.int .i64 kd, .int .i64 mr, .int .i64 wi, .int .i64 up, .int .i64 ch, .slice ro r.length rc, .slice fo f.length fc, .bool ov] 27) := ⟨_, rfl⟩
      have hbV : Below wr.heap.size wr VV := by rw [hVV]; exact below1 _ _
      have hBV := hB.trans (hbV.mono hB.size)
      have OV := hid (hO.out.below hbV)
      have DV := hid (hD.out.later dKeeper_ok hbV)
      have hsV : w.heap.size ≤ VV.heap.size := Nat.le_trans hs hbV.size
      have HVV := hid hVV
      clear hbV hVV hO hD
      go_wp2_with fail
      rw [← HVV.out]
      refine (ownKeeper_any kd mr wi up ch ov ro rc r fo fc f VV hlr hlf ((HI.out.below hBV).up hBV.size)).mono ?_
      rintro e w4 ⟨⟨gr, rc', gf, fc', rfl, hF4o⟩, hb4⟩
      have hF4 := OKeeper.fr hF4o
      obtain ⟨ro', hro⟩ : ∃ z : Option Addr, z = some ⟨gr, 0, none⟩ := ⟨_, rfl⟩
      obtain ⟨fo', hfo⟩ : ∃ z : Option Addr, z = some ⟨gf, 0, none⟩ := ⟨_, rfl⟩
      rw [← hro, ← hfo] at hF4
      rw [← hro, ← hfo]
      clear hro hfo hF4o
      have hB4 := hBV.trans (hb4.mono hBV.size)
      have O4 := hid (OV.out.below hb4)
      have D4 := hid (LaidD.add dKeeper_ok (a := (kd, mr, wi, up, ch, (ro', rc', r), (fo', fc', f), ov)) DV.out hb4 hsV hF4)
      have hs4 : w.heap.size ≤ w4.heap.size := Nat.le_trans hsV hb4.size
      have HA := hid (O4.out.below (below1 w4 (.cells #[.int .i64 kd, .int .i64 mr, .int .i64 wi, .int .i64 up, .int .i64 ch, .slice ro' r.length rc', .slice fo' f.length fc', .bool ov] 27)))
      have HN : Hid (hKeeper.In (w4.heap.size + 1) (w4.alloc (.cells #[.int .i64 kd, .int .i64 mr, .int .i64 wi, .int .i64 up, .int .i64 ch, .slice ro' r.length rc', .slice fo' f.length fc', .bool ov] 27)) (some ⟨w4.heap.size, 0, none⟩) [((kd, mr, wi, up, ch, (ro', rc', r), (fo', fc', f), ov) : LKeeper)]) := hKeeper_one (by omega) (Bx.new _ _ rfl)
      have hll : us.length + 1 ≤ 4194304 := by omega
      have hBa := Below.allocS hB4 (.cells #[.int .i64 kd, .int .i64 mr, .int .i64 wi, .int .i64 up, .int .i64 ch, .slice ro' r.length rc', .slice fo' f.length fc', .bool ov] 27)
      have DA := hid (D4.out.later dKeeper_ok (below1 w4 (.cells #[.int .i64 kd, .int .i64 mr, .int .i64 wi, .int .i64 up, .int .i64 ch, .slice ro' r.length rc', .slice fo' f.length fc', .bool ov] 27)))
      have HV2 : Hid ((us ++ [((kd, mr, wi, up, ch, (ro', rc', r), (fo', fc', f), ov) : LKeeper)]).map valKeeper = (ts.take (k + 1)).map valKeeper) := by rw [Hid, List.map_append, hV.out, HTK.out, List.map_append]; rfl
      clear hb4 hF4 OV DV HVV e1 e2 e3 e4 e5 e6 e7 e8 O4 D4
      go_wp2_with (at_builtin; refine Kind.app hKeeper_ok (w4.alloc (.cells #[.int .i64 kd, .int .i64 mr, .int .i64 wi, .int .i64 up, .int .i64 ch, .slice ro' r.length rc', .slice fo' f.length fc', .bool ov] 27)) rfl (.tmp 12) (.tmp 15) rfl w.heap.size v us rfl HA.out (by simp; omega) (some ⟨w4.heap.size, 0, none⟩) [((kd, mr, wi, up, ch, (ro', rc', r), (fo', fc', f), ov) : LKeeper)] 1 1 rfl rfl (by simp) _ HN.out hll ?_; intro v' w' hO' hB' hG' hn'; have hB5 : Below w.heap.size w w' := hBa.trans (hB'.mono (by omega)); have D5 := hid (DA.out.grown dKeeper_ok HA.out hG'); have O5 := hid hO'; clear hO' hB' hG' hn')
      go_roundw
      case rel => exact ⟨k + 1, us ++ [(kd, mr, wi, up, ch, (ro', rc', r), (fo', fc', f), ov)], v', rfl, by omega, by go_num, by simp; omega, HV2, O5, D5, hB5⟩
      case measure => simp [intOf]; omega
    · obtain rfl : k = ts.length := by omega
      rw [List.take_length] at hV
      obtain ⟨qo, qc, rfl, _, hF⟩ := hO.out.fresh
      have HG := hid (hD.out.fr dKeeper_ok (Nat.le_refl _) hF)
      rw [hul]
      clear hF hO hD
      go_wp2
      go_ret
      exact ⟨⟨qo, qc, us, by rw [List.length_map]; rfl, hV.out, HG.out⟩, hB⟩
end Go.Proofs.YtbpacibfboldcaaDoor
