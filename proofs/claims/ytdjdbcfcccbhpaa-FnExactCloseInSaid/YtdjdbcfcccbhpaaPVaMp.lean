/- A hub copied by the program. No conditions but those written. Where a task stands: the specification. No conditions but those written. A map of the call's own from tasks to numbers. No conditions but those written. -/
import Derived.Test.YtdjdbcfcccbhpaaKj
import Derived.Test.YtdjdbcfcccbhpaaPKmKn
import Derived.Test.YtdjdbcfcccbhpaaPKbAo
import Derived.Maps.Own
import Derived.Maps.OwnOps
import Derived.Maps.OwnSet
import Derived.Maps.Views
namespace Go.Proofs.Ytdjdbcfcccbhpaa
section
open Go.RowKit

theorem hChan_one {n : Nat} {W : World} {p : Nat} {kap : Int} {cl : Bool} {bo so ro : Option Addr} {bc sc rc : Nat} {b : List Int} {s r : List (Int × Int × Int)} (hp : p < n) (h : Bx W p [.int .i64 kap, .bool cl, .slice bo b.length bc, .slice so s.length sc, .slice ro r.length rc]) : hChan.In n W (some ⟨p, 0, none⟩) [((kap, cl, (bo, bc, b), (so, sc, s), (ro, rc, r)) : LChan)] := by
  refine Kind.In.mk1 hp fun i hi => ?_
  rw [Nat.zero_add]
  have hi' : i < 5 := hi
  rcases (show i = 0 ∨ i = 1 ∨ i = 2 ∨ i = 3 ∨ i = 4 from by omega) with rfl | rfl | rfl | rfl | rfl
  · exact h.c 0 rfl
  · exact h.c 1 rfl
  · exact h.c 2 rfl
  · exact h.c 3 rfl
  · exact h.c 4 rfl
theorem LaidD.grown {A : Type} [Inhabited A] {D : Deep A} (hD : D.Ok) {lo lo' k : Nat} {W W' : World} {ts us : List A} {v : Value} (h : LaidD D lo W ts k) (ho : D.K.Own lo' W v us) (hg : W.grownBy W' v.ownBlock) : LaidD D lo W' ts k := by
  refine ⟨h.len, fun j hj => hD.wide (hD.keep (h.row j hj) fun b hob => ?_) (Nat.le_refl _) hg.size, h.off⟩
  obtain ⟨_, _, h3, cur, t, h4, h5⟩ := hD.lt (h.row j hj) hob
  refine hg.block b h3 fun e => ?_
  rcases ho.2 with ⟨e2, _⟩ | ⟨g, cc, cur2, e2, _, hh, _⟩
  · subst e2; simp [Value.ownBlock] at e
  · subst e2; simp [Value.ownBlock] at e; subst e
    rw [h4] at hh; simp at hh
    exact h5 hh.2
/-- A hub in its own memory, as an ending. -/
def AnsHub (w : World) (ps : List PChan) (e : Ending) (w' : World) : Prop := (∃ o c us, e = .returned (.agg #[.slice o ps.length c]) ∧ us.map valChan = ps ∧ DFr dChan w.heap.size w'.heap.size w' o c us) ∧ Below w.heap.size w w'
set_option maxRecDepth 10000 in
set_option maxHeartbeats 16000000 in
theorem copyHub_any (ao : Option Addr) (cap : Nat) (ts : List LChan) (w : World) (hl : ts.length ≤ 1048576) (ht : totChan ts ≤ 1048576) (hz : DIn dChan w.heap.size w ao ts) :
    Calls Try.prog 24 #[.agg #[.slice ao ts.length cap]] w fun e w' => AnsHub w (ts.map valChan) e w' := by
  have HZ := hid hz
  have HTT := hid ht
  clear hz ht
  have hB0 := below2 w (.cells #[.slice ao ts.length cap] 28) (.cells #[.slice none 0 0] 28)
  have R0 : Hid (Bx ((w.alloc (.cells #[.slice ao ts.length cap] 28)).alloc (.cells #[.slice none 0 0] 28)) (w.heap.size + 1) [.slice none 0 0]) := Bx.new [.slice none 0 0] _ (by simp)
  go_enter Try.func24, Try.ntmps24
  go_wp2
  go_loopw [3, 9] (fun u i wr => ∃ (k : Nat) (us : List LChan) (v : Value), v = u ∧ k ≤ ts.length ∧ i = .int .i64 (k : Int) ∧ us.length = k ∧ Hid (us.map valChan = (ts.take k).map valChan) ∧ Hid (hChan.Own (w.heap.size + 1 + 1) wr v us) ∧ Hid (LaidD dChan (w.heap.size + 1 + 1) wr us k) ∧ Hid (Bx wr (w.heap.size + 1) [.slice none 0 0]) ∧ Below w.heap.size w wr ∧ w.heap.size + 1 + 1 ≤ wr.heap.size) (fun _ i _ => ts.length - (intOf i).toNat)
  case atStart => exact ⟨0, [], _, rfl, Nat.zero_le _, rfl, rfl, by simp [Hid], Kind.Own.nil _ _ _, LaidD.zero _ _, R0, hB0, by simp⟩
  case round =>
    obtain ⟨k, us, v, rfl, hk, rfl, hul, hV, hO, hD, hR, hB, hs⟩ := hrel
    by_cases hlt : k < ts.length
    · obtain ⟨b0, off, rfl, hb, hc⟩ := hChan_at HZ.out.1 hlt
      have e1 := (hB.cell (p := ⟨b0, off + k * 5, none⟩) hb).trans (hc k hlt).1
      have e2 := (hB.cell (p := ⟨b0, off + k * 5 + 1, none⟩) hb).trans (hc k hlt).2.1
      have e3 := (hB.cell (p := ⟨b0, off + k * 5 + 2, none⟩) hb).trans (hc k hlt).2.2.1
      have e4 := (hB.cell (p := ⟨b0, off + k * 5 + 3, none⟩) hb).trans (hc k hlt).2.2.2.1
      have e5 := (hB.cell (p := ⟨b0, off + k * 5 + 4, none⟩) hb).trans (hc k hlt).2.2.2.2
      have hI := HZ.out.2 k hlt
      have hsz := totChan_el hlt
      have HTK := hid (take_succ_el hlt)
      obtain ⟨⟨kap, cl, ⟨bo, bc, b⟩, ⟨so, sc, s⟩, ⟨ro, rc, r⟩⟩, ex⟩ : ∃ v, v = el ts k := ⟨_, rfl⟩
      rw [← ex] at e1 e2 e3 e4 e5 hI hsz HTK
      have HI : Hid (InChan w.heap.size w bo b so s ro r) := hI
      have hsz3 : b.length + s.length + r.length ≤ 1048576 := by have := HTT.out; simp [sizeChan] at hsz; omega
      clear ex hc hI hsz
      dsimp only at e1 e2 e3 e4 e5
      obtain ⟨VV, hVV⟩ : ∃ VV, VV = wr.alloc (.cells #[.int .i64 kap, .bool cl, .slice bo b.length bc, .slice so s.length sc, .slice ro r.length rc] 45) := ⟨_, rfl⟩
      have hbV : Below wr.heap.size wr VV := by rw [hVV]; exact below1 _ _
      have hBV := hB.trans (hbV.mono hB.size)
      have OV := hid (hO.out.below hbV)
      have DV := hid (hD.out.later dChan_ok hbV)
      have RV := hid (hR.out.later hbV)
      have hsV : w.heap.size + 1 + 1 ≤ VV.heap.size := Nat.le_trans hs hbV.size
      have HVV := hid hVV
      clear hbV hVV hO hD hR
      go_wp2_with fail
      rw [← HVV.out]
      refine (copyChan_any kap cl bo bc b so sc s ro rc r VV (by omega) (by omega) (by omega) ((HI.out.below hBV).up hBV.size)).mono ?_
      rintro e w4 ⟨⟨bo', bc', so', sc', ro', rc', rfl, hF4⟩, hb4⟩
      have hB4 := hBV.trans (hb4.mono hBV.size)
      have O4 := hid (OV.out.below hb4)
      have R4 := hid (RV.out.later hb4)
      have D4 := hid (LaidD.add dChan_ok (a := (kap, cl, (bo', bc', b), (so', sc', s), (ro', rc', r))) DV.out hb4 hsV hF4)
      have hs4 : w.heap.size + 1 + 1 ≤ w4.heap.size := Nat.le_trans hsV hb4.size
      have HA := hid (O4.out.below (below1 w4 (.cells #[.int .i64 kap, .bool cl, .slice bo' b.length bc', .slice so' s.length sc', .slice ro' r.length rc'] 45)))
      have HN : Hid (hChan.In (w4.heap.size + 1) (w4.alloc (.cells #[.int .i64 kap, .bool cl, .slice bo' b.length bc', .slice so' s.length sc', .slice ro' r.length rc'] 45)) (some ⟨w4.heap.size, 0, none⟩) [((kap, cl, (bo', bc', b), (so', sc', s), (ro', rc', r)) : LChan)]) := hChan_one (by omega) (Bx.new _ _ rfl)
      have hll : us.length + 1 ≤ 4194304 := by omega
      have hBa := Below.allocS hB4 (.cells #[.int .i64 kap, .bool cl, .slice bo' b.length bc', .slice so' s.length sc', .slice ro' r.length rc'] 45)
      have DA := hid (D4.out.later dChan_ok (below1 w4 (.cells #[.int .i64 kap, .bool cl, .slice bo' b.length bc', .slice so' s.length sc', .slice ro' r.length rc'] 45)))
      have RA := hid (R4.out.alloc (.cells #[.int .i64 kap, .bool cl, .slice bo' b.length bc', .slice so' s.length sc', .slice ro' r.length rc'] 45))
      have HV2 : Hid ((us ++ [((kap, cl, (bo', bc', b), (so', sc', s), (ro', rc', r)) : LChan)]).map valChan = (ts.take (k + 1)).map valChan) := by rw [Hid, List.map_append, hV.out, HTK.out, List.map_append]; rfl
      clear hb4 hF4 OV DV RV HVV e1 e2 e3 e4 e5 O4 R4 D4
      go_wp2_with (at_builtin; refine Kind.app hChan_ok (w4.alloc (.cells #[.int .i64 kap, .bool cl, .slice bo' b.length bc', .slice so' s.length sc', .slice ro' r.length rc'] 45)) rfl (.tmp 13) (.tmp 16) rfl (w.heap.size + 1 + 1) v us rfl HA.out (by simp; omega) (some ⟨w4.heap.size, 0, none⟩) [((kap, cl, (bo', bc', b), (so', sc', s), (ro', rc', r)) : LChan)] 1 1 rfl rfl (by simp) _ HN.out hll ?_; intro v' w' hO' hB' hG' hn'; have hB5 : Below w.heap.size w w' := hBa.trans (hB'.mono (by omega)); have hs5 : w.heap.size + 1 + 1 ≤ w'.heap.size := (by have := hB'.size; simp at this; omega); have D5 := hid (DA.out.grown dChan_ok HA.out hG'); have R5 := hid (RA.out.below hB' (by omega)); have O5 := hid hO'; clear hO' hB' hG' hn')
      go_roundw
      case rel => exact ⟨k + 1, us ++ [(kap, cl, (bo', bc', b), (so', sc', s), (ro', rc', r))], v', rfl, by omega, by go_num, by simp; omega, HV2, O5, D5, R5, hB5, hs5⟩
      case measure => simp [intOf]; omega
    · obtain rfl : k = ts.length := by omega
      rw [List.take_length] at hV
      obtain ⟨qo, qc, rfl, _, hF⟩ := hO.out.fresh
      have HF := hid (hD.out.fr dChan_ok (Nat.le_refl _) hF)
      have r0 := hR.out.c 0 rfl
      have rf0 := hR.out.f 0 rfl
      have rz := hR.out.size
      clear hF hO hD
      go_wp2
      refine bodyPost_ret (v := .agg #[.slice qo ts.length qc]) (by simp [results, Try.results24, go_sem, r0]) rfl ⟨⟨qo, qc, us, by rw [List.length_map], hV.out, ?_⟩, ?_⟩
      · refine DFr.wide (lo := w.heap.size + 1 + 1) (hi := wr.heap.size) dChan_ok (DFr.keep dChan_ok HF.out fun q h1 _ _ => Below.heap_setCell wr _ _ q (by dsimp only; omega)) (by omega) (by simp [World.setCell])
      · exact hB.setCell (p := ⟨w.heap.size + 1, 0, none⟩) (by simp) _
end
section
open Go.RowKit

/-- All that wait in a hub, in order. -/
def wts (ps : List PChan) : List (Int × Int × Int) := ps.flatMap fun c => c.2.2.2.1 ++ c.2.2.2.2
/-- The cases at which a task waits. -/
def stands (t : Int) (l : List (Int × Int × Int)) : List Int := (l.filter fun x => x.1 == t).map fun x => x.2.1
theorem wts_app (a b : List PChan) : wts (a ++ b) = wts a ++ wts b := by simp [wts]
theorem wts_take {ts : List LChan} {k : Nat} (h : k < ts.length) : wts ((ts.take (k + 1)).map valChan) = wts ((ts.take k).map valChan) ++ ((el ts k).2.2.2.1.2.2 ++ (el ts k).2.2.2.2.2.2) := by
  rw [take_succ_el h, List.map_append, wts_app]; simp [wts, valChan]
theorem stands_app (t : Int) (a b : List (Int × Int × Int)) : stands t (a ++ b) = stands t a ++ stands t b := by simp [stands]
theorem stands_take (t : Int) {l : List (Int × Int × Int)} {j : Nat} (h : j < l.length) : stands t (l.take (j + 1)) = stands t (l.take j) ++ (if (el l j).1 = t then [(el l j).2.1] else []) := by
  rw [take_succ_el h, stands_app]
  congr 1
  by_cases e : (el l j).1 = t <;> simp [stands, e]
theorem stands_le (t : Int) (l : List (Int × Int × Int)) : (stands t l).length ≤ l.length := by simp [stands]; exact List.length_filter_le _ _
theorem wts_len (ts : List LChan) : (wts (ts.map valChan)).length ≤ totChan ts := by
  induction ts with
  | nil => simp [wts]
  | cons a r ih =>
    simp only [wts, totChan, List.map_cons, List.flatMap_cons, List.length_append, List.sum_cons, sizeChan, valChan] at ih ⊢
    omega
theorem wts_len_take {ts : List LChan} {k : Nat} (h : k < ts.length) : (wts ((ts.take k).map valChan)).length + (el ts k).2.2.2.1.2.2.length + (el ts k).2.2.2.2.2.2.length ≤ totChan ts := by
  have h1 := wts_len (ts.take (k + 1))
  have h2 := totChan_le ts (k + 1)
  rw [wts_take h, List.length_append, List.length_append] at h1
  omega
/-- A row of ints of its own is answered. -/
def AnsI (w : World) (xs : List Int) (e : Ending) (w' : World) : Prop :=
  (∃ o c, e = .returned (.slice o xs.length c) ∧ (o = none → c = 0) ∧ kI.Fresh w.heap.size w'.heap.size w' o c xs) ∧ Below w.heap.size w w'
set_option maxRecDepth 10000 in
set_option maxHeartbeats 16000000 in
theorem stands_any (ao : Option Addr) (cap : Nat) (ts : List LChan) (t : Int) (w : World) (hl : ts.length ≤ 1048576) (ht : totChan ts ≤ 1048576) (hz : DIn dChan w.heap.size w ao ts) :
    Calls Try.prog 34 #[.agg #[.slice ao ts.length cap], .int .i64 t] w (AnsI w (stands t (wts (ts.map valChan)))) := by
  have hB0 := below1 w (.cells #[.slice ao ts.length cap] 28)
  have HZ := hid hz
  clear hz
  go_enter Try.func34, Try.ntmps34
  go_wp2
  go_loopw [5, 15] (fun u i wr => ∃ (k : Nat) (v : Value), v = u ∧ k ≤ ts.length ∧ i = .int .i64 k ∧ Hid (kI.Own (w.heap.size + 1) wr v (stands t (wts ((ts.take k).map valChan)))) ∧ Below w.heap.size w wr ∧ w.heap.size + 1 ≤ wr.heap.size) (fun _ i _ => ts.length - (intOf i).toNat)
  case atStart => exact ⟨0, _, rfl, Nat.zero_le _, rfl, Kind.Own.nil _ _ _, hB0, by simp⟩
  case round =>
    obtain ⟨k, v, rfl, hk, rfl, hO, hB, hs⟩ := hrel
    by_cases hlt : k < ts.length
    · obtain ⟨b0, off, rfl, hb, hc⟩ := hChan_at HZ.out.1 hlt
      have d1 := (hB.cell (p := ⟨b0, off + k * 5, none⟩) hb).trans (hc k hlt).1
      have d2 := (hB.cell (p := ⟨b0, off + k * 5 + 1, none⟩) hb).trans (hc k hlt).2.1
      have d3 := (hB.cell (p := ⟨b0, off + k * 5 + 2, none⟩) hb).trans (hc k hlt).2.2.1
      have d4 := (hB.cell (p := ⟨b0, off + k * 5 + 3, none⟩) hb).trans (hc k hlt).2.2.2.1
      have d5 := (hB.cell (p := ⟨b0, off + k * 5 + 4, none⟩) hb).trans (hc k hlt).2.2.2.2
      have hI := HZ.out.2 k hlt
      have HT := hid (wts_take hlt)
      have hln := wts_len_take hlt
      obtain ⟨⟨kap, cl, ⟨bo, bc, b⟩, ⟨so, sc, s⟩, ⟨ro, rc, r⟩⟩, ex⟩ : ∃ v, v = el ts k := ⟨_, rfl⟩
      rw [← ex] at d1 d2 d3 d4 d5 hI HT hln
      clear ex hc
      dsimp only at d1 d2 d3 d4 d5 HT hln
      have HIs : Hid (kW.In w.heap.size w so s) := hI.2.1
      have HIr : Hid (kW.In w.heap.size w ro r) := hI.2.2
      have hst := stands_le t (wts ((ts.take k).map valChan))
      generalize hbase : stands t (wts ((ts.take k).map valChan)) = base at hO hst
      have HBASE := hid hbase
      clear hbase hI
      obtain ⟨V, hV⟩ : ∃ V, V = (wr.alloc (.cells #[.int .i64 kap, .bool cl, .slice bo b.length bc, .slice so s.length sc, .slice ro r.length rc] 45)).alloc (.cells #[.slice so s.length sc, .slice ro r.length rc] 43) := ⟨_, rfl⟩
      have hbV : Below wr.heap.size wr V := by rw [hV]; exact below2 _ _ _
      have XC : Hid (Bx V (wr.heap.size + 1) [.slice so s.length sc, .slice ro r.length rc]) := by rw [hV]; exact Bx.new [.slice so s.length sc, .slice ro r.length rc] _ (by simp)
      have hBV := hB.trans (hbV.mono hB.size)
      have hOV := hid (hO.out.below hbV)
      have hOb : Hid (∀ b, v.ownBlock = some b → b ≠ wr.heap.size + 1) := fun b hb2 => by
        rcases hO.out.2 with ⟨e, _⟩ | ⟨g, cc, cur, e, _, hh, _⟩
        · subst e; simp [Value.ownBlock] at hb2
        · subst e; simp [Value.ownBlock] at hb2; subst hb2; have := (Array.getElem?_eq_some_iff.1 hh).1; omega
      have hsV : w.heap.size + 1 ≤ V.heap.size := Nat.le_trans hs hbV.size
      obtain ⟨c0, hc0⟩ : ∃ c0, c0 = wr.heap.size + 1 := ⟨_, rfl⟩
      have hc0w : w.heap.size + 1 ≤ c0 := by omega
      rw [← hc0] at XC hOb
      have HC0 := hid hc0
      have HVV := hid hV
      clear hV hbV hO hc0
      go_wp2
      rw [← HVV.out, ← HC0.out]
      clear HVV
      go_loopw [5, 25] (fun u i wq => ∃ (m : Nat) (v : Value), v = u ∧ m ≤ 2 ∧ i = .int .i64 m ∧ Hid (kI.Own (w.heap.size + 1) wq v (base ++ stands t (([s, r].take m).flatten))) ∧ Hid (∀ b, v.ownBlock = some b → b ≠ c0) ∧ Hid (Bx wq c0 [.slice so s.length sc, .slice ro r.length rc]) ∧ Below w.heap.size w wq ∧ w.heap.size + 1 ≤ wq.heap.size) (fun _ i _ => 2 - (intOf i).toNat)
      case atStart => exact ⟨0, _, rfl, Nat.zero_le _, rfl, by simpa [stands] using hOV, hOb, XC, hBV, hsV⟩
      case round =>
        clear hOV hOb XC hBV hsV hB hs d1 d2 d3 d4 d5
        obtain ⟨m, v, rfl, hm, rfl, hO, hOb, hC, hB, hs⟩ := hrel
        have x0 := hC.out.c 0 rfl
        have x1 := hC.out.c 1 rfl
        have hpC := hC.out.size
        by_cases hm2 : m < 2
        · have hm3 : decide ((m : Int) < 2) = true := by simp; omega
          obtain ⟨lo, lc, l, hcell, HIl, hflat, hlen2⟩ : ∃ (lo : Option Addr) (lc : Nat) (l : List (Int × Int × Int)), wr.cell? ⟨c0, m, none⟩ = some (.slice lo l.length lc) ∧ Hid (kW.In w.heap.size w lo l) ∧ Hid (([s, r].take (m + 1)).flatten = ([s, r].take m).flatten ++ l) ∧ (([s, r].take m).flatten.length + l.length ≤ s.length + r.length) := by
            rcases (show m = 0 ∨ m = 1 from by omega) with rfl | rfl
            · exact ⟨so, sc, s, x0, HIs, by simp [Hid], by simp⟩
            · exact ⟨ro, rc, r, x1, HIr, by simp [Hid], by simp⟩
          have hst2 := stands_le t (([s, r].take m).flatten)
          generalize hfl : stands t (([s, r].take m).flatten) = fl at hO hst2
          have HFL := hid hfl
          clear hfl x0 x1
          go_wp2
          go_loopw [5, 31] (fun u i wq => ∃ (j : Nat) (v : Value), v = u ∧ j ≤ l.length ∧ i = .int .i64 j ∧ Hid (kI.Own (w.heap.size + 1) wq v ((base ++ fl) ++ stands t (l.take j))) ∧ Hid (∀ b, v.ownBlock = some b → b ≠ c0) ∧ Hid (Bx wq c0 [.slice so s.length sc, .slice ro r.length rc]) ∧ Below w.heap.size w wq ∧ w.heap.size + 1 ≤ wq.heap.size) (fun _ i _ => l.length - (intOf i).toNat)
          case atStart => exact ⟨0, _, rfl, Nat.zero_le _, rfl, by simpa [stands] using hO, hOb, hC, hB, hs⟩
          case round =>
            clear hO hOb hC hB hs hpC hcell
            obtain ⟨j, v, rfl, hj, rfl, hO, hOb, hC, hB, hs⟩ := hrel
            have hpC := hC.out.size
            by_cases hjt : j < l.length
            · obtain ⟨bb, of2, rfl, hbb, hcc⟩ := kW_at HIl.out hjt
              have e1 := (hB.cell (p := ⟨bb, of2 + j * 3, none⟩) hbb).trans (hcc j hjt).1
              have e2 := (hB.cell (p := ⟨bb, of2 + j * 3 + 1, none⟩) hbb).trans (hcc j hjt).2.1
              have e3 := (hB.cell (p := ⟨bb, of2 + j * 3 + 2, none⟩) hbb).trans (hcc j hjt).2.2
              have HT2 := hid (stands_take t hjt)
              obtain ⟨⟨y1, y2, y3⟩, ey⟩ : ∃ v, v = el l j := ⟨_, rfl⟩
              rw [← ey] at e1 e2 e3 HT2
              clear ey hcc
              dsimp only at e1 e2 e3 HT2
              have hst3 := stands_le t (l.take j)
              have hbW := below1 wr (.cells #[.int .i64 y1, .int .i64 y2, .int .i64 y3] 70)
              by_cases hy : y1 = t
              · have hy' : (y1 == t) = true := by simpa using hy
                rw [if_pos hy] at HT2
                clear hy
                obtain ⟨WA, hWA⟩ : ∃ WA, WA = (wr.alloc (.cells #[.int .i64 y1, .int .i64 y2, .int .i64 y3] 70)).alloc (.cells #[.int .i64 y2] 3) := ⟨_, rfl⟩
                have hbA : Below wr.heap.size wr WA := by rw [hWA]; exact below2 _ _ _
                have HOA := hid (hO.out.below hbA)
                have HCA := hid (hC.out.later hbA)
                have HNA : Hid (kI.In (wr.heap.size + 1 + 1) WA (some ⟨wr.heap.size + 1, 0, none⟩) [y2]) := by rw [hWA]; exact int_one (by omega) (by simp)
                have hBA := hB.trans (hbA.mono hB.size)
                have hsA : wr.heap.size + 1 + 1 ≤ WA.heap.size := by rw [hWA]; simp
                have hll : ((base ++ fl) ++ stands t (l.take j)).length + 1 ≤ 4194304 := by
                  simp only [List.length_append, List.length_take] at hst3 ⊢; omega
                have HWA := hid hWA
                clear hWA hbA hO hC hbW
                go_wp2_with (at_builtin; rw [← HWA.out]; refine Kind.appN kI_ok WA rfl (.tmp 39) (.tmp 42) rfl (w.heap.size + 1) v ((base ++ fl) ++ stands t (l.take j)) rfl HOA.out (by omega) (some ⟨wr.heap.size + 1, 0, none⟩) [y2] 1 1 rfl rfl (by simp) _ HNA.out hll ?_; intro v' w' hO' hB' hG' hn'; have hB2 : Below w.heap.size w w' := hBA.trans (hB'.mono (by omega)); have hs2 : w.heap.size + 1 ≤ w'.heap.size := (by have := hB'.size; omega); have HC2 := hid (HCA.out.keep hG'.size (hG'.block c0 HCA.out.1 (fun e => hOb.out c0 e.symm rfl))); have HOb2 : Hid (∀ b, v'.ownBlock = some b → b ≠ c0) := (fun b hb2 => by rcases hn' b hb2 with h | h; exact hOb.out b h; omega); have HO' : Hid (kI.Own (w.heap.size + 1) w' v' ((base ++ fl) ++ stands t (l.take (j + 1)))) := (by rw [Hid, HT2.out, ← List.append_assoc]; exact hO'); clear hO' hB' hG' hn')
                go_roundw
                case rel => exact ⟨j + 1, v', rfl, by omega, by go_num, HO', HOb2, HC2, hB2, hs2⟩
                case measure => simp [intOf]; omega
              · have hy' : (y1 == t) = false := by simpa using hy
                rw [if_neg hy, List.append_nil] at HT2
                clear hy
                have hO2 := hid (hO.out.below hbW)
                have hC2 := hid (hC.out.later hbW)
                have hB2 := hB.trans (hbW.mono hB.size)
                have hs2 := Nat.le_trans hs hbW.size
                clear hO hC hbW
                go_wp2
                go_roundw
                case rel => exact ⟨j + 1, _, rfl, by omega, by go_num, by rw [HT2.out]; exact hO2, hOb, hC2, hB2, hs2⟩
                case measure => simp [intOf]; omega
            · obtain rfl : j = l.length := by omega
              rw [List.take_length] at hO
              have HO2 : Hid (kI.Own (w.heap.size + 1) wr v (base ++ stands t (([s, r].take (m + 1)).flatten))) := by
                rw [Hid, hflat.out, stands_app, HFL.out, ← List.append_assoc]; exact hO.out
              clear hO
              go_wp2
              go_roundw
              case rel => exact ⟨m + 1, _, rfl, by omega, by go_num, HO2, hOb, hC, hB, hs⟩
              case measure => simp [intOf]; omega
        · obtain rfl : m = 2 := by omega
          have HO2 : Hid (kI.Own (w.heap.size + 1) wr v (stands t (wts ((ts.take (k + 1)).map valChan)))) := by
            rw [Hid, HT.out, stands_app, HBASE.out]
            have h := hO.out
            simpa [stands_app] using h
          clear hO x0 x1
          go_wp2
          go_roundw
          case rel => exact ⟨k + 1, _, rfl, by omega, by go_num, HO2, hB, hs⟩
          case measure => simp [intOf]; omega
    · obtain rfl : k = ts.length := by omega
      rw [List.take_length] at hO
      obtain ⟨qo, qc, rfl, hq0, hF⟩ := hO.out.fresh
      have HF := hid (hF.wide (lo' := w.heap.size) (by omega) (Nat.le_refl _))
      have HQ := hid hq0
      clear hF hO hq0
      go_wp2
      go_ret
      exact ⟨⟨_, _, rfl, HQ.out, HF.out⟩, hB⟩
end
section
open Go.RowKit Go.Maps

theorem lawI : Keyed Try.prog 3 := int_keyed Try.underlying3
theorem zeroI (w : World) : (zeroValue 3).run Try.prog w = .ok (.int .i64 0) w := by kernel_rfl
/-- A task's number. -/
def TaskN (k : Int) : Prop := 0 ≤ k ∧ k ≤ 29
theorem TaskN.key {k : Int} (h : TaskN k) : keyOf Try.prog 3 (.int .i64 k) = some (.int .i64 k) := keyOf_int_mk Try.underlying3 (WalkArith.wf_i64 (by have := h.1; have := h.2; omega))
/-- Block B is a map that reads at tasks as f. -/
def MapF (W : World) (B n : Nat) (f : Int → Int) : Prop := ∃ D : DataW Unit, W.ownsMap Try.prog 3 (plainElem Try.prog 3) B n D ∧ ∀ k, TaskN k → D.atKey (.int .i64 k) (.lit (.int .i64 0)) = .lit (.int .i64 (f k))
theorem MapF.keep {W W' : World} {B n : Nat} {f : Int → Int} (h : MapF W B n f) (hb : W'.heap[B]? = W.heap[B]?) : MapF W' B n f := by
  obtain ⟨D, ⟨es, clock, h1, h2⟩, h3⟩ := h
  exact ⟨D, ⟨es, clock, hb.trans h1, h2⟩, h3⟩
theorem MapF.lt {W : World} {B n : Nat} {f : Int → Int} (h : MapF W B n f) : B < W.heap.size := by
  obtain ⟨D, ⟨es, clock, h1, _⟩, _⟩ := h
  exact (Array.getElem?_eq_some_iff.1 h1).1
theorem MapF.later {W W' : World} {B n : Nat} {f : Int → Int} (h : MapF W B n f) (hb : Below W.heap.size W W') : MapF W' B n f := h.keep (hb.block B h.lt)
theorem MapF.made (w : World) : MapF (w.alloc (.map #[] 0)) w.heap.size 0 (fun _ => 0) := ⟨.map [], World.ownsMap_made _ _ _ _, fun _ _ => rfl⟩
theorem MapF.ext {W : World} {B n : Nat} {f g : Int → Int} (h : MapF W B n f) (he : ∀ k, TaskN k → f k = g k) : MapF W B n g := by
  obtain ⟨D, h1, h2⟩ := h
  exact ⟨D, h1, fun k hk => by rw [h2 k hk, he k hk]⟩
theorem wpl_look (w : World) {ops : Array Oper} {rest : List Oper} {o : Oper} {a : Act} {Q : Exit → Act → World → Prop} (hg : o.guard = none) (m x : Operand) (hop : o.op = Op.lookup 51 m x false) (b n : Nat) (f : Int → Int) (hm : a.eval m = .map (some b)) (h : MapF w b n f) (k : Int) (hx : a.eval x = .int .i64 k) (hk : TaskN k)
    (hK : wpList Try.prog ops Q rest (a.put o.dst (.int .i64 (f k))) w) : wpList Try.prog ops Q (o :: rest) a w := by
  obtain ⟨D, h1, h2⟩ := h
  refine wpList_lookup_own_int w hg m x 51 hop 3 3 .i64 lawI Try.underlying51 Try.underlying3 (zeroI _) b n D hm h1 _ _ hx hk.key fun c hat _ => ?_
  rw [h2 k hk] at hat
  simp at hat
  subst hat
  exact hK
theorem wpl_put (w : World) {ops : Array Oper} {rest : List Oper} {o : Oper} {a : Act} {Q : Exit → Act → World → Prop} (hg : o.guard = none) (m x v : Operand) (hop : o.op = Op.mapUpdate 51 m x v) (b n : Nat) (f : Int → Int) (hm : a.eval m = .map (some b)) (h : MapF w b n f) (hn : n < maxLen) (k z : Int) (hx : a.eval x = .int .i64 k) (hv : a.eval v = .int .i64 z) (hk : TaskN k) (hz : 0 ≤ z ∧ z ≤ 4194304)
    (hK : ∀ w', MapF w' b (n + 1) (fun j => if j = k then z else f j) → w.grownBy w' (some b) → wpList Try.prog ops Q rest (a.put o.dst undef) w') : wpList Try.prog ops Q (o :: rest) a w := by
  obtain ⟨D, h1, h2⟩ := h
  have hT : IsMap D := (h1.tidy lawI).isMap
  refine wpList_mapUpdate_own w hg m x v 51 hop 3 3 lawI Try.underlying51 _ b n D hm h1 hn _ _ _ hx hv hk.key _ [] (plainElem_int Try.underlying3 (WalkArith.wf_i64 (by omega))) fun w' h3 h4 => hK w' ⟨_, h3, fun j hj => ?_⟩ h4
  dsimp only
  by_cases e : j = k
  · subst e; rw [if_pos rfl, atKey_put_same hT (by simp [WideAt.IsKeyLit])]
  · rw [if_neg e, atKey_put_other (by simpa using e)]; exact h2 j hj
theorem wpl_del (w : World) {ops : Array Oper} {rest : List Oper} {o : Oper} {a : Act} {Q : Exit → Act → World → Prop} (hg : o.guard = none) (m x : Operand) (hop : o.op = Op.call { callee := Callee.builtin Builtin.delete, args := #[m, x], argTypes := #[51, 3] }) (b n : Nat) (f : Int → Int) (hm : a.eval m = .map (some b)) (h : MapF w b n f) (k : Int) (hx : a.eval x = .int .i64 k) (hk : TaskN k)
    (hK : ∀ w', MapF w' b n (fun j => if j = k then 0 else f j) → OnlyAt (some ⟨b, 0, none⟩) w w' → wpList Try.prog ops Q rest (a.put o.dst (.tuple #[])) w') : wpList Try.prog ops Q (o :: rest) a w := by
  obtain ⟨D, h1, h2⟩ := h
  refine wpList_delete_own w hg m x 51 3 hop 3 lawI Try.underlying51 _ b n D hm h1 _ _ hx hk.key fun w' h3 h4 => hK w' ⟨_, h3, fun j hj => ?_⟩ ?_
  · dsimp only
    by_cases e : j = k
    · subst e; rw [if_pos rfl, atKey_del_same]
    · rw [if_neg e, atKey_del_other (by simpa using e)]; exact h2 j hj
  · obtain ⟨es, clock, es', clock', h5, rfl⟩ := h4
    refine ⟨rfl, rfl, rfl, by simp [ChangeMaps.setBlock], fun q hq => ?_⟩
    have hne : b ≠ q := fun e => hq b rfl e.symm
    simp [ChangeMaps.setBlock, hne]
end
end Go.Proofs.Ytdjdbcfcccbhpaa
