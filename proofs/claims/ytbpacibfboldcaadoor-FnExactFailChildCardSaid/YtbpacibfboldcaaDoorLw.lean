
/- Telling and ending, in memory. No conditions but those written. -/
import Derived.Test.YtbpacibfboldcaaDoorLv
namespace Go.Proofs.YtbpacibfboldcaaDoor
open Go.RowKit

/-- Blocks of other types than T are as they were. -/
def SameTy (T : TypeId) (W W' : World) : Prop := ∀ (b : Nat) (cur : Array Value) (ty : TypeId), W.heap[b]? = some (Obj.cells cur ty (0, 0)) → ty ≠ T → W'.heap[b]? = W.heap[b]?
theorem SameTy.set {T : TypeId} {W : World} {g i : Nat} {v : Value} {cs : Array Value} (hg : W.heap[g]? = some (Obj.cells cs T (0, 0))) : SameTy T W (W.setCell ⟨g, i, none⟩ v) := fun b cur ty e hty => by
  refine Below.heap_setCell _ _ _ _ fun e2 => ?_
  subst e2
  rw [hg] at e; simp at e
  exact hty e.2.symm
theorem SameTy.ints {T : TypeId} {W W' : World} (h : SameTy T W W') (hT : WorkT T) : IntsKept W W' := fun b cur ty e hn => h b cur ty e fun e2 => hn (e2 ▸ hT)
theorem SameTy.grown {α : Type} {K : Kind α} {W W' : World} {lo : Nat} {v : Value} {xs : List α} (ho : K.Own lo W v xs) (hg : W.grownBy W' v.ownBlock) : SameTy K.ty W W' := fun b cur ty e hty => by
  refine hg.block b (Array.getElem?_eq_some_iff.1 e).1 fun e2 => ?_
  rcases ho.2 with ⟨e3, _⟩ | ⟨g, cc, cur2, e3, _, hh, _⟩
  · subst e3; simp [Value.ownBlock] at e2
  · subst e3; simp [Value.ownBlock] at e2; subst e2
    rw [e] at hh; simp at hh
    exact hty hh.2
theorem DFr.sameTy {T : TypeId} {lo hi : Nat} {W W' : World} {ao : Option Addr} {c : Nat} {ts : List LKeeper} (h : DFr dKeeper lo hi W ao c ts) (hS : SameTy T W W') (h1 : hKeeper.ty ≠ T) (h2 : kB.ty ≠ T) (h3 : kI.ty ≠ T) : DFr dKeeper lo hi W' ao c ts := by
  have hh : hKeeper.Fresh lo hi W ao c ts := h.1
  refine ⟨hh.keepB fun b hb => ?_, fun j hj => dKeeper_ok.keep (h.2.1 j hj) fun b hb => ?_, h.2.2⟩
  · obtain ⟨_, _, _, cur, e⟩ := hh.lt hb
    exact hS b cur _ e h1
  · have hf := h.2.1 j hj
    rcases hb with hb | hb
    · obtain ⟨_, _, _, cur, e⟩ := Kind.Fresh.lt hf.1 hb
      exact hS b cur _ e h2
    · obtain ⟨_, _, _, cur, e⟩ := Kind.Fresh.lt hf.2 hb
      exact hS b cur _ e h3
theorem SameTy.own {α : Type} {K : Kind α} {T : TypeId} {W W' : World} {lo : Nat} {v : Value} {xs : List α} (h : SameTy T W W') (ho : K.Own lo W v xs) (hT : K.ty ≠ T) : K.Own lo W' v xs := by
  rcases ho.2 with ⟨e, h0⟩ | ⟨g, cap, cur, e, hb, hh, r⟩
  · exact ⟨ho.1, .inl ⟨e, h0⟩⟩
  · exact ⟨ho.1, .inr ⟨g, cap, cur, e, hb, by rw [h g _ _ hh hT]; exact hh, r⟩⟩
/-- A type of its own. -/
structure OwnT (t : TypeId) : Prop where
  h : hKeeper.ty ≠ t
  b : kB.ty ≠ t
  i : kI.ty ≠ t
  a : kA.ty ≠ t
/-- A keeper ends. -/
theorem LiveW.putEnd {t : TypeId} {lo hi : Nat} {W : World} {p g kc : Nat} {av : Value} {ls : List LKeeper} {ra : List (Option Addr × Nat)} {s : St} (ht : OwnT t) (hp : W.heap[p]? = some (.cells #[.slice (some ⟨g, 0, none⟩) s.1.length kc, av] t (0, 0))) (hD : DFr dKeeper lo hi W (some ⟨g, 0, none⟩) kc ls) (hO : kA.Own lo W av s.2) (hv : ls.map valKeeper = s.1) (hr : ls.map radr = ra) (hlo : lo ≤ p) (hhi : hi ≤ W.heap.size) {k : Nat} (hk : k < ls.length) {kd mr wi up ch : Int} {ro : Option Addr} {rc : Nat} {r : List Bool} {fo : Option Addr} {fc : Nat} {f : List Int} {ov : Bool} (he : el ls k = (kd, mr, wi, up, ch, (ro, rc, r), (fo, fc, f), ov)) :
    LiveW t lo hi ((W.setCell ⟨g, k * 8 + 7, none⟩ (.bool true)).setCell ⟨g, k * 8 + 6, none⟩ (.slice none 0 0)) p ra (endP s.1 k, s.2) ∧ IntsKept W ((W.setCell ⟨g, k * 8 + 7, none⟩ (.bool true)).setCell ⟨g, k * 8 + 6, none⟩ (.slice none 0 0)) ∧ lo ≤ g := by
  have hh : hKeeper.Fresh lo hi W (some ⟨g, 0, none⟩) kc ls := hD.1
  obtain ⟨g2, e2, hg1, hg2, hg3, ho⟩ := hh.at (show 0 < ls.length by omega)
  simp at e2; subst e2
  obtain ⟨cur, hcur⟩ := owns_type ho
  have s1 : SameTy hKeeper.ty W (W.setCell ⟨g, k * 8 + 7, none⟩ (.bool true)) := SameTy.set hcur
  obtain ⟨cur', hcur'⟩ := owns_type (World.ownsRow.stored ho (k * 8 + 7) (.bool true)).1
  have s2 : SameTy hKeeper.ty (W.setCell ⟨g, k * 8 + 7, none⟩ (.bool true)) ((W.setCell ⟨g, k * 8 + 7, none⟩ (.bool true)).setCell ⟨g, k * 8 + 6, none⟩ (.slice none 0 0)) := SameTy.set hcur'
  have hp1 := s1 p _ _ hp ht.h.symm
  have hp2 := s2 p _ _ (hp1.trans hp) ht.h.symm
  have hev := el_map_val hv hk
  rw [he] at hev
  have hevk : el s.1 k = (kd, mr, wi, up, ch, r, f, ov) := hev
  refine ⟨⟨g, kc, av, ls.set k (kd, mr, wi, up, ch, (ro, rc, r), (none, 0, []), true), ?_, ?_, ?_, ?_, ?_, hlo, by simpa [World.setCell] using hhi⟩, (s1.ints (.inl rfl)).trans (s2.ints (.inl rfl)), hg1⟩
  · rw [hp2, hp1, hp]; simp [endP]
  · have := hD.endH hk he
    simpa using this
  · exact s2.own (s1.own hO (by decide)) (by decide)
  · rw [List.map_set, hv, endP, hevk]; rfl
  · rw [List.map_set, ← hr]
    refine el_ext (by simp) fun j hj => ?_
    have hj' : j < ls.length := by simpa using hj
    by_cases e : j = k
    · subst e; rw [el_set_same (by simpa using hj'), el_map _ hj', he]; rfl
    · rw [el_set_other e]
/-- Something is told. -/
theorem LiveW.putTell {t : TypeId} {lo hi : Nat} {W : World} {p g kc : Nat} {av : Value} {ls : List LKeeper} {ra : List (Option Addr × Nat)} {s : St} (ht : OwnT t) (hm : WorkT t) (hp : W.heap[p]? = some (.cells #[.slice (some ⟨g, 0, none⟩) s.1.length kc, av] t (0, 0))) (hD : DFr dKeeper lo hi W (some ⟨g, 0, none⟩) kc ls) (hO : kA.Own lo W av s.2) (hv : ls.map valKeeper = s.1) (hr : ls.map radr = ra) (hlo : lo ≤ p) (hhi : hi ≤ W.heap.size) {V w' : World} {v' : Value} {x : Int × Int × Int} (hV : Below W.heap.size W V) (hO' : kA.Own lo w' v' (s.2 ++ [x])) (hB' : Below lo V w') (hG' : V.grownBy w' av.ownBlock) :
    LiveW t lo hi (w'.setCell ⟨p, 1, none⟩ v') p ra (s.1, s.2 ++ [x]) ∧ IntsKept W (w'.setCell ⟨p, 1, none⟩ v') ∧ (w'.cell? ⟨p, 1, none⟩ = some av ∧ w'.frozen? ⟨p, 1, none⟩ = false) := by
  have s1 : SameTy kA.ty V w' := SameTy.grown (hO.below hV) hG'
  have hpV : V.heap[p]? = some (.cells #[.slice (some ⟨g, 0, none⟩) s.1.length kc, av] t (0, 0)) := by rw [hV.block p (Array.getElem?_eq_some_iff.1 hp).1]; exact hp
  have hpw : w'.heap[p]? = some (.cells #[.slice (some ⟨g, 0, none⟩) s.1.length kc, av] t (0, 0)) := (s1 p _ _ hpV ht.a.symm).trans hpV
  have s2 : SameTy t w' (w'.setCell ⟨p, 1, none⟩ v') := SameTy.set hpw
  have hsz : W.heap.size ≤ w'.heap.size := Nat.le_trans hV.size hB'.size
  refine ⟨⟨g, kc, v', ls, ?_, ?_, ?_, hv, hr, hlo, by simpa [World.setCell] using Nat.le_trans hhi hsz⟩, (IntsKept.later hV).trans ((s1.ints (.inr (.inr (.inl rfl)))).trans (s2.ints hm)), ?_, ?_⟩
  · have := Go.Joins.block_setCell (i := 1) hpw v'
    simpa using this
  · have h1 := (hD.later dKeeper_ok hV).sameTy s1 (by decide) (by decide) (by decide)
    have h2 := h1.sameTy s2 ht.h ht.b ht.i
    exact h2
  · exact s2.own hO' ht.a
  · rw [Go.Joins.cell_of_block hpw]; rfl
  · exact Go.Joins.unfrozen_of_block hpw 1
/-- A row of ints of another's is made or written. -/
theorem LiveW.intW {t : TypeId} {lo hi lo2 : Nat} {V W' : World} {p : Nat} {ra : List (Option Addr × Nat)} {s : St} (ht : OwnT t) (h : LiveW t lo hi V p ra s) (hS : SameTy kI.ty V W') (hb : ∀ b, b < lo2 → W'.heap[b]? = V.heap[b]?) (h2 : hi ≤ lo2) (hs : V.heap.size ≤ W'.heap.size) : LiveW t lo hi W' p ra s := by
  obtain ⟨g, kc, av, ls, hp, hD, hO, hv, hr, hlo, hhi⟩ := h
  exact ⟨g, kc, av, ls, (hS p _ _ hp ht.i.symm).trans hp, hD.keep dKeeper_ok fun k _ h1 _ => hb k (by omega), hS.own hO (by decide), hv, hr, hlo, by omega⟩
theorem ownT_w : OwnT 62 := ⟨by decide, by decide, by decide, by decide⟩
/-- What work behind a pointer leaves. -/
def AnsW (t : TypeId) (lo hi : Nat) (w : World) (p : Nat) (ra : List (Option Addr × Nat)) (s' : St) (e : Ending) (w' : World) : Prop := e = .returned (.tuple #[]) ∧ LiveW t lo hi w' p ra s' ∧ Below lo w w' ∧ IntsKept w w'
set_option maxRecDepth 10000 in
set_option maxHeartbeats 4000000 in
theorem tell_any (lo hi p : Nat) (ra : List (Option Addr × Nat)) (s : St) (k kn c : Int) (w : World) (hL : LiveW 62 lo hi w p ra s) (hlo : lo ≤ w.heap.size) (hn : s.2.length + 1 ≤ 4194304) :
    Calls Tryd.prog 76 #[.pointer (some ⟨p, 0, none⟩), .int .i64 k, .int .i64 kn, .int .i64 c] w fun e w' => AnsW 62 lo hi w p ra (s.1, s.2 ++ [(k, kn, c)]) e w' := by
  obtain ⟨g, kc, av, ls, hp, hD, hO, hv, hr, hlp, hhi⟩ := hL
  have c1 : w.cell? ⟨p, 1, none⟩ = some av := by rw [Go.Joins.cell_of_block hp]; rfl
  have hps : p < w.heap.size := (Array.getElem?_eq_some_iff.1 hp).1
  have hbV := below1 w (.cells #[.int .i64 k, .int .i64 kn, .int .i64 c] 67)
  have HA := hid (hO.below hbV)
  have HN : Hid (kA.In (w.heap.size + 1) (w.alloc (.cells #[.int .i64 k, .int .i64 kn, .int .i64 c] 67)) (some ⟨w.heap.size, 0, none⟩) [(k, kn, c)]) := kA_one (by omega) (by simp [go_sem]) (by simp [go_sem]) (by simp [go_sem])
  have HP := hid hp
  have HD := hid hD
  have HO := hid hO
  clear hp hD hO
  go_enter Tryd.func76, Tryd.ntmps76
  go_wp2_with (at_builtin; refine Kind.app kA_ok (w.alloc (.cells #[.int .i64 k, .int .i64 kn, .int .i64 c] 67)) rfl (.tmp 12) (.tmp 17) rfl lo av s.2 rfl HA.out (by simp; omega) (some ⟨w.heap.size, 0, none⟩) [(k, kn, c)] 1 1 rfl rfl (by simp) _ HN.out hn ?_; intro v' w' hO' hB' hG' hn'; obtain ⟨qo, qc, rfl, _, _⟩ := hO'.fresh; have HT := hid (LiveW.putTell ownT_w work_w HP.out HD.out HO.out hv hr hlp hhi hbV hO' hB' hG'); have d1 := HT.out.2.2.1; have f1 := HT.out.2.2.2; have hB2 : Below lo w w' := (hbV.mono hlo).trans hB'; clear hO' hB' hG' hn')
  first | refine bodyPost_ret (results_none rfl _ _ _) rfl ?_ | refine bodyPost_end (results_none rfl _ _ _) rfl ?_
  have hT := HT.out
  rw [show (s.2 ++ [(k, kn, c)]).length = s.2.length + 1 by simp] at hT
  exact ⟨rfl, hT.1, hB2.setCell (p := ⟨p, 1, none⟩) hlp _, hT.2.1⟩
set_option maxRecDepth 10000 in
set_option maxHeartbeats 4000000 in
theorem end_any (lo hi p : Nat) (ra : List (Option Addr × Nat)) (s : St) (k : Nat) (w : World) (hL : LiveW 62 lo hi w p ra s) (hk : k < s.1.length) (hl : s.1.length ≤ 8) :
    Calls Tryd.prog 75 #[.pointer (some ⟨p, 0, none⟩), .int .i64 k] w fun e w' => AnsW 62 lo hi w p ra (endP s.1 k, s.2) e w' := by
  obtain ⟨g, kc, av, ls, hp, hD, hO, hv, hr, hlp, hhi⟩ := hL
  have hlen := len_ls hv
  have c0 : w.cell? ⟨p, 0, none⟩ = some (.slice (some ⟨g, 0, none⟩) s.1.length kc) := by rw [Go.Joins.cell_of_block hp]; rfl
  obtain ⟨⟨kd, mr, wi, up, ch, ⟨ro, rc, r⟩, ⟨fo, fc, f⟩, ov⟩, ex⟩ : ∃ v, v = el ls k := ⟨_, rfl⟩
  obtain ⟨⟨_, _, _, _, _, h5, h6, h7⟩, hfz, hg1, _, hg3⟩ := hK_at hD.1 (k := k) (by omega) ex.symm
  have z7 := hfz 7
  have z6 := hfz 6
  have hgp : p ≠ g := fun e => by
    subst e
    obtain ⟨g2, e2, _, _, _, ho⟩ := (show hKeeper.Fresh _ _ _ _ _ _ from hD.1).at (show 0 < ls.length by omega)
    simp at e2; subst e2
    obtain ⟨cur, hcur⟩ := owns_type ho
    rw [hp] at hcur; simp at hcur
    exact absurd hcur.2 (by decide)
  have HE := hid (LiveW.putEnd ownT_w hp hD hO hv hr hlp hhi (k := k) (by omega) ex.symm)
  clear hp hD hO hfz ex
  go_enter Tryd.func75, Tryd.ntmps75
  go_wp2
  first | refine bodyPost_ret (results_none rfl _ _ _) rfl ?_ | refine bodyPost_end (results_none rfl _ _ _) rfl ?_
  exact ⟨rfl, HE.out.1, ((Below.refl lo w).setCell (p := ⟨g, k * 8 + 7, none⟩) hg1 _).setCell (p := ⟨g, k * 8 + 6, none⟩) hg1 _, HE.out.2.1⟩
end Go.Proofs.YtbpacibfboldcaaDoor
