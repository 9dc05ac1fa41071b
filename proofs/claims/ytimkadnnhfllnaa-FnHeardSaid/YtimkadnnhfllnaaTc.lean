
/- Topics copied by the program. No conditions but those written. -/
import Derived.Test.YtimkadnnhfllnaaTq
import Derived.Test.YtimkadnnhfllnaaTk
import Derived.Deep.DeepCutAuto
namespace Go.Proofs.Ytimkadnnhfllnaa
open Go.RowKit

theorem addr_ne {b o b' o' : Nat} (h : b ≠ b') : (⟨b, o, none⟩ : Addr) ≠ ⟨b', o', none⟩ := fun e => h (by cases e; rfl)
/-- What lies there behind a topic's first copying. -/
def CT (w wx : World) (sd : Int) (ao : Option Addr) (cap : Nat) (ts : List LSub) (p : Nat) (to1 : Option Addr) : Prop :=
  Below w.heap.size w wx ∧ Bx wx w.heap.size [.int .i64 sd, .slice ao ts.length cap] ∧ Bx wx (w.heap.size + 1) [.int .i64 0, .slice none 0 0] ∧ Bx wx p [.int .i64 sd, .slice to1 ts.length ts.length] ∧ w.heap.size + 1 < p ∧ hSub.Fresh (w.heap.size + 1 + 1) wx.heap.size wx to1 ts.length ts ∧ ∀ b, rowOwn to1 ts b → b ≠ p
theorem CT.a {w V w1 : World} {sd : Int} {ao : Option Addr} {cap : Nat} {ts : List LSub} {to1 : Option Addr} (hV : V.heap.size = w.heap.size + 1 + 1) (hB : Below w.heap.size w w1) (hb : Below V.heap.size V w1) (hA : Bx w1 w.heap.size [.int .i64 sd, .slice ao ts.length cap]) (hR : Bx w1 (w.heap.size + 1) [.int .i64 0, .slice none 0 0]) (hF : hSub.Fresh V.heap.size w1.heap.size w1 to1 ts.length ts) :
    CT w (w1.alloc (.cells #[.int .i64 sd, .slice to1 ts.length ts.length] 25)) sd ao cap ts w1.heap.size to1 := by
  have hs := hb.size
  refine ⟨Below.allocS hB _, hA.alloc _, hR.alloc _, Bx.new [.int .i64 sd, .slice to1 ts.length ts.length] _ rfl, by omega, ?_, ?_⟩
  · exact (hF.later (below1 _ _)).wide (by omega) (by simp)
  · intro b hb2 e
    have := (hF.lt hb2).2.2.1
    omega
theorem CT.b {w V w1 : World} {sd : Int} {ao : Option Addr} {cap : Nat} {ts : List LSub} {to1 : Option Addr} (hV : V.heap.size = w.heap.size + 1 + 1) (hB : Below w.heap.size w w1) (hA : Bx w1 w.heap.size [.int .i64 sd, .slice ao ts.length cap]) (hR : Bx w1 (w.heap.size + 1) [.int .i64 0, .slice none 0 0]) (hZ : Bx w1 V.heap.size [.int .i64 0, .slice none 0 0]) (hF : hSub.Fresh (V.heap.size + 1) w1.heap.size w1 to1 ts.length ts) :
    CT w ((w1.setCell ⟨V.heap.size, 0, none⟩ (.int .i64 sd)).setCell ⟨V.heap.size, 1, none⟩ (.slice to1 ts.length ts.length)) sd ao cap ts V.heap.size to1 := by
  have n1 : V.heap.size ≠ w.heap.size := by omega
  have n2 : V.heap.size ≠ w.heap.size + 1 := by omega
  refine ⟨(hB.setCell (p := ⟨V.heap.size, 0, none⟩) (by dsimp only; omega) _).setCell (p := ⟨V.heap.size, 1, none⟩) (by dsimp only; omega) _, (hA.other (a := ⟨V.heap.size, 0, none⟩) n1 _).other (a := ⟨V.heap.size, 1, none⟩) n1 _, (hR.other (a := ⟨V.heap.size, 0, none⟩) n2 _).other (a := ⟨V.heap.size, 1, none⟩) n2 _, (hZ.set 0 _).set 1 _, by omega, ?_, ?_⟩
  · exact ((hF.setBelow (a := ⟨V.heap.size, 0, none⟩) (by dsimp only; omega) _).setBelow (a := ⟨V.heap.size, 1, none⟩) (by dsimp only; omega) _).wide (by omega) (by simp [World.setCell])
  · intro b hb2 e
    have := (hF.lt hb2).1
    omega
theorem hSub_set_q {us ts : List LSub} {k : Nat} (hu : us.length = k) (hk : k < ts.length) {nd kap dp : Int} {dr : Bool} {qo qo' : Option Addr} {qc qc' : Nat} {q : List Int} (he : el ts k = (nd, kap, dr, dp, (qo, qc, q))) :
    (hSub.flat (us ++ ts.drop k)).set (k * 5 + 4) (.slice qo' q.length qc') = hSub.flat ((us ++ [((nd, kap, dr, dp, (qo', qc', q)) : LSub)]) ++ ts.drop (k + 1)) := by
  have hl : (us ++ ts.drop k).length = ts.length := by simp; omega
  have hlen : (hSub.flat (us ++ ts.drop k)).length = ts.length * 5 := by rw [hSub.flat_len, hl]; rfl
  have hsame : us ++ [((nd, kap, dr, dp, (qo', qc', q)) : LSub)] ++ ts.drop (k + 1) = (us ++ ts.drop k).set k (nd, kap, dr, dp, (qo', qc', q)) := by
    rw [List.set_append_right _ _ (by omega), hu, Nat.sub_self, List.drop_eq_getElem_cons hk, List.set_cons_zero, List.append_assoc]; rfl
  have hel : el (us ++ ts.drop k) k = (nd, kap, dr, dp, (qo, qc, q)) := by
    have := el_app_right us (ts.drop k) 0
    rw [hu, Nat.add_zero, el_drop, Nat.add_zero] at this
    rw [this, he]
  rw [hsame]
  refine hSub.flat_of _ _ (by rw [List.length_set, List.length_set, hlen, hl]; rfl) fun j hj i hi => ?_
  have hj' : j < ts.length := by rw [List.length_set, hl] at hj; exact hj
  have hi' : i < 5 := hi
  have hsz : hSub.sz = 5 := rfl
  have hold := hSub.flat_at (us ++ ts.drop k) j (by rw [hl]; exact hj') i hi
  rw [hsz] at hold ⊢
  by_cases e : j = k
  · subst e
    rw [el_set_same (by rw [hl]; exact hj')]
    rw [hel] at hold
    rcases (show i = 0 ∨ i = 1 ∨ i = 2 ∨ i = 3 ∨ i = 4 from by omega) with rfl | rfl | rfl | rfl | rfl
    · rw [set_far (by omega), hold]; rfl
    · rw [set_far (by omega), hold]; rfl
    · rw [set_far (by omega), hold]; rfl
    · rw [set_far (by omega), hold]; rfl
    · rw [set_at (by omega)]; rfl
  · rw [el_set_other e, set_far (by omega), hold]
theorem hSub_cell {lo hi : Nat} {W : World} {g c i : Nat} {l : List LSub} (h : hSub.Fresh lo hi W (some ⟨g, 0, none⟩) c l) (hi' : i < (hSub.flat l).length) : W.cell? ⟨g, i, none⟩ = some ((hSub.flat l)[i]) := by
  rcases h with h | ⟨g2, e, _, ho⟩
  · subst h; simp [Kind.flat] at hi'
  · simp at e; subst e
    exact (ho.cellAt i (by rw [hSub.flat_len] at hi'; exact hi')).trans (by simp)
theorem hSub_frozen {lo hi : Nat} {W : World} {g c i : Nat} {l : List LSub} {n k : Nat} (h : hSub.Fresh lo hi W (some ⟨g, 0, none⟩) c l) (hl : l.length = n) (hk : k < n) : W.frozen? ⟨g, i, none⟩ = false := by
  rcases h with h | ⟨g2, e, _, ho⟩
  · subst h; simp at hl; omega
  · simp at e; subst e
    exact ho.frozenAt i
theorem hSub_put_q {lo hi : Nat} {W : World} {g c k : Nat} {us ts : List LSub} (h : hSub.Fresh lo hi W (some ⟨g, 0, none⟩) c (us ++ ts.drop k)) (hu : us.length = k) (hk : k < ts.length) {nd kap dp : Int} {dr : Bool} {qo qo' : Option Addr} {qc qc' : Nat} {q : List Int} (he : el ts k = (nd, kap, dr, dp, (qo, qc, q))) :
    hSub.Fresh lo hi (W.setCell ⟨g, k * 5 + 4, none⟩ (.slice qo' q.length qc')) (some ⟨g, 0, none⟩) c ((us ++ [((nd, kap, dr, dp, (qo', qc', q)) : LSub)]) ++ ts.drop (k + 1)) := by
  have hl : (us ++ ts.drop k).length = ts.length := by simp; omega
  have hl2 : ((us ++ [((nd, kap, dr, dp, (qo', qc', q)) : LSub)]) ++ ts.drop (k + 1)).length = ts.length := by simp; omega
  rcases h with h | ⟨g2, e, hg, ho⟩
  · rw [h] at hl; simp at hl; omega
  · simp at e; subst e
    have hs := (World.ownsRow.stored ho (k * 5 + 4) (.slice qo' q.length qc')).1
    rw [hSub_set_q hu hk he, hl] at hs
    exact .inr ⟨g, rfl, hg, by rw [hl2]; exact hs⟩
/-- A topic in its own memory, as an ending. -/
def AnsT (w : World) (sd : Int) (ps : List PSub) (e : Ending) (w' : World) : Prop := (∃ o c us, e = .returned (.agg #[.int .i64 sd, .slice o ps.length c]) ∧ us.map valSub = ps ∧ DFr dSub w.heap.size w'.heap.size w' o c us) ∧ Below w.heap.size w w'
/-- .. its room is its length. -/
def AnsX (w : World) (sd : Int) (ps : List PSub) (e : Ending) (w' : World) : Prop := (∃ o us, e = .returned (.agg #[.int .i64 sd, .slice o ps.length ps.length]) ∧ us.map valSub = ps ∧ DFr dSub w.heap.size w'.heap.size w' o ps.length us) ∧ Below w.heap.size w w'
set_option maxRecDepth 10000 in
set_option maxHeartbeats 16000000 in
theorem copyTopic_any (sd : Int) (ao : Option Addr) (cap : Nat) (ts : List LSub) (w : World) (hl : ts.length ≤ 1048576) (hf : Fits ts) (hz : DIn dSub w.heap.size w ao ts) :
    Calls Try.prog 14 #[.agg #[.int .i64 sd, .slice ao ts.length cap]] w fun e w' => AnsX w sd (ts.map valSub) e w' := by
  have HZ := hid hz
  have HF := hid hf
  clear hz hf
  obtain ⟨V, hV⟩ : ∃ V, V = (w.alloc (.cells #[.int .i64 sd, .slice ao ts.length cap] 25)).alloc (.cells #[.int .i64 0, .slice none 0 0] 25) := ⟨_, rfl⟩
  have hBV : Below w.heap.size w V := by rw [hV]; exact below2 _ _ _
  have AV : Bx V w.heap.size [.int .i64 sd, .slice ao ts.length cap] := by rw [hV]; exact (Bx.new [.int .i64 sd, .slice ao ts.length cap] _ rfl).alloc _
  have RV : Bx V (w.heap.size + 1) [.int .i64 0, .slice none 0 0] := by rw [hV]; exact Bx.new [.int .i64 0, .slice none 0 0] _ (by simp)
  have HS : Hid (V.heap.size = w.heap.size + 1 + 1) := by rw [hV]; simp [Hid]
  have HV := hid hV
  clear hV
  have C0 := (⟨AV.c 0 rfl, AV.c 1 rfl⟩ : V.cell? ⟨w.heap.size, 0, none⟩ = some (.int .i64 sd) ∧ V.cell? ⟨w.heap.size, 1, none⟩ = some (.slice ao ts.length cap))
  have AVz := AV.alloc (.cells #[.int .i64 0, .slice none 0 0] 25)
  have Cz := (⟨AVz.c 0 rfl, AVz.c 1 rfl⟩ : (V.alloc (.cells #[.int .i64 0, .slice none 0 0] 25)).cell? ⟨w.heap.size, 0, none⟩ = some (.int .i64 sd) ∧ (V.alloc (.cells #[.int .i64 0, .slice none 0 0] 25)).cell? ⟨w.heap.size, 1, none⟩ = some (.slice ao ts.length cap))
  have Czd := (⟨AVz.c 0 rfl, AVz.c 1 rfl⟩ : (V.alloc (.cells #[.int .i64 0, .slice none 0 0] 25)).drew.cell? ⟨w.heap.size, 0, none⟩ = some (.int .i64 sd) ∧ (V.alloc (.cells #[.int .i64 0, .slice none 0 0] 25)).drew.cell? ⟨w.heap.size, 1, none⟩ = some (.slice ao ts.length cap))
  have hsl : w.heap.size < V.heap.size := AV.size
  go_enter Try.func14, Try.ntmps14
  go_wp2
  rw [← HV.out]
  go_cut [3] (fun s3 wx => ∃ p to1, s3 = .pointer (some ⟨p, 0, none⟩) ∧ Hid (CT w wx sd ao cap ts p to1))
  case first =>
    go_region_held3 (fun Y => Y.cell? ⟨w.heap.size, 0, none⟩ = some (.int .i64 sd) ∧ Y.cell? ⟨w.heap.size, 1, none⟩ = some (.slice ao ts.length cap))
      (first | (with_reducible exact C0) | (with_reducible exact P1) | (with_reducible exact Cz) | (with_reducible exact Czd) | (with_reducible exact Pz) | (with_reducible exact Pr) | ((refine ⟨?_, ?_⟩ <;> (rw [World.cell?_setCell_other _ _ _ _ (addr_ne (by omega)), World.cell?_setCell_other _ _ _ _ (addr_ne (by omega))])); (with_reducible exact P1.1); (with_reducible exact P1.2)) | exact C0)
      (first
        | (go_at_call 32; refine (copyListS_any ao cap ts V.drew hl (by exact (HZ.out.1.later hBV.drew))).mono ?_; rintro e w1 ⟨⟨to1, rfl, hF1⟩, hb1⟩; have hbv : Below V.heap.size V w1 := (Below.refl V.heap.size V).drew.trans hb1; have hB1 := hBV.trans (hbv.mono hBV.size); have A1 := AV.later hbv; have R1 := RV.later hbv; have P1 := (⟨A1.c 0 rfl, A1.c 1 rfl⟩ : w1.cell? ⟨w.heap.size, 0, none⟩ = some (.int .i64 sd) ∧ w1.cell? ⟨w.heap.size, 1, none⟩ = some (.slice ao ts.length cap)); have A1z := A1.alloc (.cells #[.int .i64 0, .slice none 0 0] 25); have Pz := (⟨A1z.c 0 rfl, A1z.c 1 rfl⟩ : (w1.alloc (.cells #[.int .i64 0, .slice none 0 0] 25)).cell? ⟨w.heap.size, 0, none⟩ = some (.int .i64 sd) ∧ (w1.alloc (.cells #[.int .i64 0, .slice none 0 0] 25)).cell? ⟨w.heap.size, 1, none⟩ = some (.slice ao ts.length cap)); have A1r := A1.alloc (.cells #[.int .i64 sd, .slice to1 ts.length ts.length] 25); have Pr := (⟨A1r.c 0 rfl, A1r.c 1 rfl⟩ : (w1.alloc (.cells #[.int .i64 sd, .slice to1 ts.length ts.length] 25)).cell? ⟨w.heap.size, 0, none⟩ = some (.int .i64 sd) ∧ (w1.alloc (.cells #[.int .i64 sd, .slice to1 ts.length ts.length] 25)).cell? ⟨w.heap.size, 1, none⟩ = some (.slice ao ts.length cap)); have HQ := hid (CT.a (ao := ao) (cap := cap) HS.out hB1 hbv A1 R1 hF1); clear hF1 hb1 hbv)
        | (go_at_call 32; refine (copyListS_any ao cap ts (V.alloc (.cells #[.int .i64 0, .slice none 0 0] 25)).drew hl (by exact (HZ.out.1.later (Below.allocS hBV (.cells #[.int .i64 0, .slice none 0 0] 25)).drew))).mono ?_; rintro e w1 ⟨⟨to1, rfl, hF1⟩, hb1⟩; have hbv : Below (V.heap.size + 1) (V.alloc (.cells #[.int .i64 0, .slice none 0 0] 25)) w1 := (Below.refl _ (V.alloc (.cells #[.int .i64 0, .slice none 0 0] 25))).drew.trans (by simpa using hb1); have hbu : Below V.heap.size V w1 := (below1 V (.cells #[.int .i64 0, .slice none 0 0] 25)).trans (hbv.mono (by omega)); have hB1 := hBV.trans (hbu.mono hBV.size); have A1 := AV.later hbu; have R1 := RV.later hbu; have P1 := (⟨A1.c 0 rfl, A1.c 1 rfl⟩ : w1.cell? ⟨w.heap.size, 0, none⟩ = some (.int .i64 sd) ∧ w1.cell? ⟨w.heap.size, 1, none⟩ = some (.slice ao ts.length cap)); have Z1 := (Bx.new (w := V) (p := V.heap.size) [.int .i64 0, .slice none 0 0] 25 rfl).below hbv (by omega); have z0 := Z1.c 0 rfl; have zf0 := Z1.f 0 rfl; have z1 := Z1.c 1 rfl; have zf1 := Z1.f 1 rfl; have HQ := hid (CT.b (ao := ao) (cap := cap) HS.out hB1 A1 R1 Z1 (by simpa using hF1)); have hns : w.heap.size ≠ V.heap.size := (by omega); clear hF1 hb1 hbv hbu))
    all_goals
      go_wp2_with fail
      go_meet
      exact ⟨_, _, rfl, HQ.out⟩
  case rest =>
    clear C0 AVz Cz Czd AV RV hBV HS HV hsl
    obtain ⟨p, to1, rfl, HC⟩ := hcut
    obtain ⟨hB, hA, hR, hP, hp, hF, hne⟩ := HC.out
    have a1 := hA.c 1 rfl
    have HR0 := hid hR
    have HP0 := hid hP
    have HF0 := hid hF
    have HNE := hid hne
    obtain ⟨mid, hmid⟩ : ∃ m, m = wc.heap.size := ⟨_, rfl⟩
    have hpm : p < mid := by rw [hmid]; exact hP.size
    have HM := hid hmid
    clear hA hR hP hF hne HC hmid
    go_wp2
    clear a1
    go_loopw [15] (fun i wr => ∃ (k : Nat) (us : List LSub), k ≤ ts.length ∧ i = .int .i64 k ∧ us.length = k ∧ Hid (us.map valSub = (ts.take k).map valSub) ∧ Hid (hSub.Fresh (w.heap.size + 1 + 1) mid wr to1 ts.length (us ++ ts.drop k)) ∧ Hid (LaidD dSub mid wr us k) ∧ Hid (Bx wr (w.heap.size + 1) [.int .i64 0, .slice none 0 0]) ∧ Hid (Bx wr p [.int .i64 sd, .slice to1 ts.length ts.length]) ∧ Below w.heap.size w wr ∧ mid ≤ wr.heap.size) (fun i _ => ts.length - (intOf i).toNat)
    case atStart => exact ⟨0, [], Nat.zero_le _, rfl, rfl, by simp [Hid], by rw [Hid, HM.out]; simpa using HF0.out, LaidD.zero _ _, HR0, HP0, hB, by rw [HM.out]; exact Nat.le_refl _⟩
    case round =>
      clear hB HR0 HP0 HF0
      obtain ⟨k, us, hk, rfl, hul, hV, hF, hD, hR, hP, hB, hs⟩ := hrel
      by_cases hlt : k < ts.length
      · have hfl : (us ++ ts.drop k).length = ts.length := by simp; omega
        obtain ⟨g, hg, hg1, hg2, hg3, ho⟩ := hF.out.at (by rw [hfl]; omega)
        subst hg
        have hgp : g ≠ p := HNE.out g ⟨by omega, rfl⟩
        obtain ⟨b0, off, rfl, hb, hc⟩ := hSub_at HZ.out.1 hlt
        have d1 := (hB.cell (p := ⟨b0, off + k * 5, none⟩) hb).trans (hc k hlt).1
        have d2 := (hB.cell (p := ⟨b0, off + k * 5 + 1, none⟩) hb).trans (hc k hlt).2.1
        have d3 := (hB.cell (p := ⟨b0, off + k * 5 + 2, none⟩) hb).trans (hc k hlt).2.2.1
        have d4 := (hB.cell (p := ⟨b0, off + k * 5 + 3, none⟩) hb).trans (hc k hlt).2.2.2.1
        have d5 := (hB.cell (p := ⟨b0, off + k * 5 + 4, none⟩) hb).trans (hc k hlt).2.2.2.2
        have hfk := HF.out _ (el_mem hlt)
        have hI := HZ.out.2 k hlt
        have HTK := hid (take_succ_el hlt)
        obtain ⟨⟨nd, kap, dr, dp, ⟨qo, qc, q⟩⟩, ey⟩ : ∃ v, v = el ts k := ⟨_, rfl⟩
        rw [← ey] at d1 d2 d3 d4 d5 hfk hI HTK
        have HE := hid ey.symm
        have HI : Hid (kI.In w.heap.size w qo q) := hI
        clear ey hc hI
        dsimp only at d1 d2 d3 d4 d5 hfk
        obtain ⟨VW, hVW⟩ : ∃ VW, VW = wr.alloc (.cells #[.int .i64 nd, .int .i64 kap, .bool dr, .int .i64 dp, .slice qo q.length qc] 36) := ⟨_, rfl⟩
        have hbW : Below wr.heap.size wr VW := by rw [hVW]; exact below1 _ _
        have XW : Bx VW wr.heap.size [.int .i64 nd, .int .i64 kap, .bool dr, .int .i64 dp, .slice qo q.length qc] := by rw [hVW]; exact Bx.new [.int .i64 nd, .int .i64 kap, .bool dr, .int .i64 dp, .slice qo q.length qc] _ rfl
        have hBW := hB.trans (hbW.mono hB.size)
        have FW := hid (hF.out.later hbW)
        have DW := hid (hD.out.later dSub_ok hbW)
        have RW := hid (hR.out.later hbW)
        have PW := hP.out.later hbW
        have hsW : mid ≤ VW.heap.size := Nat.le_trans hs hbW.size
        have HVW := hid hVW
        have C0 := (⟨PW.c 1 rfl, XW.c 4 rfl⟩ : VW.cell? ⟨p, 1, none⟩ = some (.slice (some ⟨g, 0, none⟩) ts.length ts.length) ∧ VW.cell? ⟨wr.heap.size, 4, none⟩ = some (.slice qo q.length qc))
        have hgw : wr.heap.size ≠ g := by omega
        have hkc : (k : Int) < (ts.length : Int) := by omega
        have hxl : k * 5 + 4 < (hSub.flat (us ++ ts.drop k)).length := by rw [hSub.flat_len, hfl]; show _ < ts.length * 5; omega
        have HXL := hid hxl
        have HFL := hid hfl
        clear hbW hVW hF hD hR hP ho hfl hxl
        go_wp2_with fail
        rw [← HVW.out]
        go_region_held3 (fun Y => Y.cell? ⟨p, 1, none⟩ = some (.slice (some ⟨g, 0, none⟩) ts.length ts.length) ∧ Y.cell? ⟨wr.heap.size, 4, none⟩ = some (.slice qo q.length qc))
          (first | (with_reducible exact C0) | (with_reducible exact P4) | ((refine ⟨?_, ?_⟩ <;> (rw [World.cell?_setCell_other _ _ _ _ (addr_ne (by omega))])); (with_reducible exact P4.1); (with_reducible exact P4.2)) | exact C0)
          (first
            | (go_at_call 33; refine (copyListI_any qo qc q VW.drew hfk (by exact HI.out.later hBW.drew)).mono ?_; rintro e w4 ⟨⟨qo', rfl, hF4⟩, hb4⟩; have hbv : Below VW.heap.size VW w4 := (Below.refl VW.heap.size VW).drew.trans hb4; have hB4 := hBW.trans (hbv.mono hBW.size); have P4 := (⟨(PW.later hbv).c 1 rfl, (XW.later hbv).c 4 rfl⟩ : w4.cell? ⟨p, 1, none⟩ = some (.slice (some ⟨g, 0, none⟩) ts.length ts.length) ∧ w4.cell? ⟨wr.heap.size, 4, none⟩ = some (.slice qo q.length qc)); have F4 := hid (FW.out.later hbv); have D4 := hid (LaidD.add dSub_ok (a := (nd, kap, dr, dp, (qo', q.length, q))) DW.out hbv hsW hF4); have R4 := hid (RW.out.later hbv); have PB4 := hid (PW.later hbv); have hs4 : mid ≤ w4.heap.size := Nat.le_trans hsW hbv.size; have c4 : w4.cell? ⟨g, k * 5 + 4, none⟩ = some ((hSub.flat (us ++ ts.drop k))[k * 5 + 4]'HXL.out) := hSub_cell F4.out HXL.out; have f4 : w4.frozen? ⟨g, k * 5 + 4, none⟩ = false := hSub_frozen F4.out HFL.out hlt; clear hF4 hb4 hbv))
        obtain ⟨W5, hW5⟩ : ∃ V, V = w4.setCell ⟨g, k * 5 + 4, none⟩ (.slice qo' q.length q.length) := ⟨_, rfl⟩
        have F5 : Hid (hSub.Fresh (w.heap.size + 1 + 1) mid W5 (some ⟨g, 0, none⟩) ts.length ((us ++ [((nd, kap, dr, dp, (qo', q.length, q)) : LSub)]) ++ ts.drop (k + 1))) := by rw [Hid, hW5]; exact hSub_put_q F4.out hul hlt HE.out
        have D5 : Hid (LaidD dSub mid W5 (us ++ [((nd, kap, dr, dp, (qo', q.length, q)) : LSub)]) (k + 1)) := by rw [Hid, hW5]; exact D4.out.set dSub_ok (a := ⟨g, k * 5 + 4, none⟩) hg2 _
        have R5 : Hid (Bx W5 (w.heap.size + 1) [.int .i64 0, .slice none 0 0]) := by rw [Hid, hW5]; exact R4.out.other (a := ⟨g, k * 5 + 4, none⟩) (by dsimp only; omega) _
        have PB5 : Hid (Bx W5 p [.int .i64 sd, .slice (some ⟨g, 0, none⟩) ts.length ts.length]) := by rw [Hid, hW5]; exact PB4.out.other (a := ⟨g, k * 5 + 4, none⟩) hgp _
        have hB5 : Below w.heap.size w W5 := by rw [hW5]; exact hB4.setCell (p := ⟨g, k * 5 + 4, none⟩) (by dsimp only; omega) _
        have hs5 : mid ≤ W5.heap.size := by rw [hW5]; simpa [World.setCell] using hs4
        have HV5 : Hid ((us ++ [((nd, kap, dr, dp, (qo', q.length, q)) : LSub)]).map valSub = (ts.take (k + 1)).map valSub) := by rw [Hid, HTK.out, List.map_append, List.map_append, hV.out]; rfl
        have HW5 := hid hW5
        clear hW5 F4 D4 R4 PB4 hB4 hs4 c4 f4 P4
        go_wp2_with fail
        rw [← HW5.out]
        go_wp2
        go_roundw
        case rel => exact ⟨k + 1, (us ++ [((nd, kap, dr, dp, (qo', q.length, q)) : LSub)]), by omega, by go_num, by simp; omega, HV5, F5, D5, R5, PB5, hB5, hs5⟩
        case measure => simp [intOf]; omega
      · obtain rfl : k = ts.length := by omega
        rw [List.take_length] at hV
        have hFe : hSub.Fresh (w.heap.size + 1 + 1) mid wr to1 ts.length us := by have h := hF.out; rwa [List.drop_length, List.append_nil] at h
        have HD := hid (hD.out.fr dSub_ok (lo' := w.heap.size + 1 + 1) (by omega) (hFe.wide (Nat.le_refl _) hs))
        have r0 := hR.out.c 0 rfl
        have rf0 := hR.out.f 0 rfl
        have r1 := hR.out.c 1 rfl
        have rf1 := hR.out.f 1 rfl
        have rz := hR.out.size
        have p0 := hP.out.c 0 rfl
        have p1 := hP.out.c 1 rfl
        clear hF hD hFe
        go_wp2
        refine bodyPost_ret (v := .agg #[.int .i64 sd, .slice to1 ts.length ts.length]) (by simp [results, Try.results14, go_sem, r0, r1]) rfl ⟨⟨to1, us, by rw [List.length_map], hV.out, ?_⟩, ?_⟩
        · rw [List.length_map]
          exact DFr.wide (lo := w.heap.size + 1 + 1) (hi := wr.heap.size) dSub_ok (DFr.keep dSub_ok HD.out fun q h1 _ _ => by rw [Below.heap_setCell _ _ _ _ (by dsimp only; omega), Below.heap_setCell _ _ _ _ (by dsimp only; omega)]) (by omega) (by simp [World.setCell])
        · exact (hB.setCell (p := ⟨w.heap.size + 1, 0, none⟩) (by dsimp only; omega) _).setCell (p := ⟨w.heap.size + 1, 1, none⟩) (by dsimp only; omega) _
end Go.Proofs.Ytimkadnnhfllnaa
