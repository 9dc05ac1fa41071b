
/- Faults that count: the program. No conditions but those written. -/
import Derived.Test.YtbpacibfboldcaaDoorTl
import Derived.Test.YtbpacibfboldcaaDoorLx
import Derived.WalkLawsBesides
namespace Go.Proofs.YtbpacibfboldcaaDoor
open Go.RowKit

theorem DFr.put2 {A : Type} [Inhabited A] {D : Deep A} (hD : D.Ok) {lo hi hi' : Nat} {W W' : World} {ao : Option Addr} {c : Nat} {ts : List A} (h : DFr D lo hi W ao c ts) (hhi : hi ≤ hi') {k : Nat} (hk : k < ts.length) {a : A} (hK : D.K.Fresh lo hi' W' ao c (ts.set k a)) (hF : D.Fr lo hi' W' a) (ho : ∀ b, D.own a b → D.own (el ts k) b ∨ hi ≤ b) (hb : ∀ b, ¬ rowOwn ao ts b → b < hi → W'.heap[b]? = W.heap[b]?) : DFr D lo hi' W' ao c (ts.set k a) := by
  refine ⟨hK, fun j hj => ?_, fun i j hij hj b h1 h2 => ?_⟩
  · have hj' : j < ts.length := by simpa using hj
    by_cases e : j = k
    · subst e; rw [el_set_same hk]; exact hF
    · rw [el_set_other e]
      exact hD.wide (hD.keep (h.2.1 j hj') fun b hob => hb b (h.head hD hj' hob) (hD.lt (h.2.1 j hj') hob).2.1) (Nat.le_refl _) hhi
  · have hj' : j < ts.length := by simpa using hj
    have old : ∀ q, q < ts.length → D.own (el (ts.set k a) q) b → D.own (el ts q) b ∨ (hi ≤ b ∧ q = k) := fun q hq hq2 => by
      by_cases e : q = k
      · subst e; rw [el_set_same hk] at hq2
        rcases ho b hq2 with h | h
        · exact .inl h
        · exact .inr ⟨h, rfl⟩
      · rw [el_set_other e] at hq2; exact .inl hq2
    rcases old i (by omega) h1 with h3 | ⟨h3, e3⟩
    · rcases old j hj' h2 with h4 | ⟨h4, e4⟩
      · exact h.2.2 i j hij hj' b h3 h4
      · have := (hD.lt (h.2.1 i (by omega)) h3).2.1; omega
    · rcases old j hj' h2 with h4 | ⟨h4, e4⟩
      · have := (hD.lt (h.2.1 j hj') h4).2.1; omega
      · omega
/-- What lies behind a tick is taken as the tick. -/
def capT (tick t : Int) : Int := if tick < t then tick else t
theorem capT_le {tick t : Int} (h : ¬ tick < t) : capT tick t = t := by rw [capT, if_neg h]
theorem capT_gt {tick t : Int} (h : tick < t) : capT tick t = tick := by rw [capT, if_pos h]
set_option maxRecDepth 10000 in
set_option maxHeartbeats 4000000 in
theorem upTo_any (ao : Option Addr) (cap : Nat) (zs : List Int) (tick : Int) (w : World) (hl : zs.length ≤ 1048576) (hz : kI.In w.heap.size w ao zs) :
    Calls Tryd.prog 81 #[.slice ao zs.length cap, .int .i64 tick] w fun e w' => AnsV w (zs.map (capT tick)) e w' := by
  go_enter Tryd.func81, Tryd.ntmps81
  go_wp2
  go_loopw [5, 10] (fun u i wr => ∃ (k : Nat) (v : Value), v = u ∧ k ≤ zs.length ∧ i = .int .i64 k ∧ Hid (kI.Own w.heap.size wr v ((zs.take k).map (capT tick))) ∧ Below w.heap.size w wr) (fun _ i _ => zs.length - (intOf i).toNat)
  case atStart => exact ⟨0, _, rfl, Nat.zero_le _, rfl, Kind.Own.nil _ _ _, Below.refl _ _⟩
  case round =>
    obtain ⟨k, v, rfl, hk, rfl, hO, hB⟩ := hrel
    by_cases hlt : k < zs.length
    · obtain ⟨bb, off, rfl, hbb, hc⟩ := ints_at (hz.below hB) hlt
      have hck := hc k hlt
      obtain ⟨x, hx⟩ : ∃ x, x = el zs k := ⟨_, rfl⟩
      rw [← hx] at hck
      have HX : Hid (x = el zs k) := hx
      clear hx hc
      have hs := hB.size
      obtain ⟨y, hy⟩ : ∃ y, y = capT tick x := ⟨_, rfl⟩
      have HY := hid hy
      have hll : ((zs.take k).map (capT tick)).length + 1 ≤ 4194304 := by simp; omega
      have HA : Hid (kI.Own w.heap.size (wr.alloc (.cells #[.int .i64 y] 3)) v ((zs.take k).map (capT tick))) := hO.out.below (below1 _ _)
      have HN : Hid (kI.In (wr.heap.size + 1) (wr.alloc (.cells #[.int .i64 y] 3)) (some ⟨wr.heap.size, 0, none⟩) [y]) := int_one (by omega) (by simp)
      have hBa : Below w.heap.size w (wr.alloc (.cells #[.int .i64 y] 3)) := Below.allocS hB _
      by_cases he : tick < x
      · have e1 : y = tick := by rw [hy]; exact capT_gt he
        subst e1
        clear hy
        go_wp2_with (at_builtin; refine Kind.app kI_ok (wr.alloc (.cells #[.int .i64 y] 3)) rfl (.tmp 14) (.tmp 18) rfl w.heap.size v ((zs.take k).map (capT y)) rfl HA.out (by simp; omega) (some ⟨wr.heap.size, 0, none⟩) [y] 1 1 rfl rfl (by simp) _ HN.out hll ?_; intro v' w' hO' hB' hG' hn'; have hB2 : Below w.heap.size w w' := hBa.trans (hB'.mono (by omega)); have HO' : Hid (kI.Own w.heap.size w' v' ((zs.take (k + 1)).map (capT y))) := (by rw [Hid, take_succ_el hlt, List.map_append, List.map_singleton, ← HX.out, ← HY.out]; exact hO'); clear hO' hB' hG' hn')
        go_roundw
        case rel => exact ⟨k + 1, v', rfl, by omega, by go_num, HO', hB2⟩
        case measure => simp [intOf]; omega
      · have e1 : y = x := by rw [hy]; exact capT_le he
        subst e1
        clear hy
        go_wp2_with (at_builtin; refine Kind.app kI_ok (wr.alloc (.cells #[.int .i64 y] 3)) rfl (.tmp 14) (.tmp 18) rfl w.heap.size v ((zs.take k).map (capT tick)) rfl HA.out (by simp; omega) (some ⟨wr.heap.size, 0, none⟩) [y] 1 1 rfl rfl (by simp) _ HN.out hll ?_; intro v' w' hO' hB' hG' hn'; have hB2 : Below w.heap.size w w' := hBa.trans (hB'.mono (by omega)); have HO' : Hid (kI.Own w.heap.size w' v' ((zs.take (k + 1)).map (capT tick))) := (by rw [Hid, take_succ_el hlt, List.map_append, List.map_singleton, ← HX.out, ← HY.out]; exact hO'); clear hO' hB' hG' hn')
        go_roundw
        case rel => exact ⟨k + 1, v', rfl, by omega, by go_num, HO', hB2⟩
        case measure => simp [intOf]; omega
    · obtain rfl : k = zs.length := by omega
      rw [List.take_length] at hO
      go_wp2
      go_ret
      exact ⟨⟨_, rfl, hO.out⟩, hB⟩
/-- A keeper's faults are put anew. -/
theorem DFr.newF {lo hi hi' : Nat} {W : World} {g c : Nat} {us : List LKeeper} (h : DFr dKeeper lo hi W (some ⟨g, 0, none⟩) c us) {k : Nat} (hk : k < us.length) {kd mr wi up ch : Int} {ro : Option Addr} {rc : Nat} {r : List Bool} {fo : Option Addr} {fc : Nat} {f : List Int} {ov : Bool} (he : el us k = (kd, mr, wi, up, ch, (ro, rc, r), (fo, fc, f), ov)) {fo' : Option Addr} {fc' : Nat} {f' : List Int} (hF : kI.Fresh hi hi' W fo' fc' f') (hhi : hi ≤ hi') (hlo : lo ≤ hi) :
    DFr dKeeper lo hi' (W.setCell ⟨g, k * 8 + 6, none⟩ (.slice fo' f'.length fc')) (some ⟨g, 0, none⟩) c (us.set k (kd, mr, wi, up, ch, (ro, rc, r), (fo', fc', f'), ov)) := by
  have h1 : hKeeper.Fresh lo hi W (some ⟨g, 0, none⟩) c us := h.1
  have h2 := head_fa h1 hk he fo' fc' f'
  obtain ⟨g2, e2, _, hg2, _, _⟩ := h1.at (show 0 < us.length by omega)
  simp at e2; subst e2
  have hne : ∀ b, b ≠ g → (W.setCell ⟨g, k * 8 + 6, none⟩ (.slice fo' f'.length fc')).heap[b]? = W.heap[b]? := fun b hb => Below.heap_setCell _ _ _ _ hb
  have hf := h.2.1 k hk
  rw [he] at hf
  have hr : kB.Fresh lo hi W ro rc r := hf.1
  refine DFr.put2 dKeeper_ok h hhi hk (h2.wide (Nat.le_refl _) hhi) ⟨(hr.keepB fun b hb => hne b fun e => ?_).wide (Nat.le_refl _) hhi, (hF.keepB fun b hb => hne b fun e => ?_).wide hlo (Nat.le_refl _)⟩ (fun b hb => ?_) fun b h3 _ => hne b fun e => h3 ⟨by omega, by rw [e]⟩
  · subst e; exact h.head dKeeper_ok hk (b := b) (by rw [he]; exact .inl hb) ⟨by omega, rfl⟩
  · have := (hF.lt hb).1; omega
  · rw [he]
    rcases hb with hb | hb
    · exact .inl (.inl hb)
    · exact .inr (hF.lt hb).1
def withFaults (p : PKeeper) (f : List Int) : PKeeper := (p.1, p.2.1, p.2.2.1, p.2.2.2.1, p.2.2.2.2.1, p.2.2.2.2.2.1, f, p.2.2.2.2.2.2.2)
def setFaults (ps : List PKeeper) (k : Nat) (f : List Int) : List PKeeper := ps.set k (withFaults (el ps k) f)
theorem LiveW.putFaults {t : TypeId} {lo hi : Nat} {W : World} {p g kc : Nat} {av : Value} {ls : List LKeeper} {ra : List (Option Addr × Nat)} {s : St} (ht : OwnT t) (hp : W.heap[p]? = some (.cells #[.slice (some ⟨g, 0, none⟩) s.1.length kc, av] t (0, 0))) (hD : DFr dKeeper lo hi W (some ⟨g, 0, none⟩) kc ls) (hO : kA.Own lo W av s.2) (hv : ls.map valKeeper = s.1) (hr : ls.map radr = ra) (hlo : lo ≤ p) (hlh : lo ≤ hi)
    {k : Nat} (hk : k < ls.length) {kd mr wi up ch : Int} {ro : Option Addr} {rc : Nat} {r : List Bool} {fo : Option Addr} {fc : Nat} {f : List Int} {ov : Bool} (he : el ls k = (kd, mr, wi, up, ch, (ro, rc, r), (fo, fc, f), ov)) {fo' : Option Addr} {fc' : Nat} {f' : List Int} (hF : kI.Fresh hi W.heap.size W fo' fc' f') (hhi : hi ≤ W.heap.size) :
    LiveW t lo W.heap.size (W.setCell ⟨g, k * 8 + 6, none⟩ (.slice fo' f'.length fc')) p ra (setFaults s.1 k f', s.2) ∧ IntsKept W (W.setCell ⟨g, k * 8 + 6, none⟩ (.slice fo' f'.length fc')) ∧ lo ≤ g := by
  have hh : hKeeper.Fresh lo hi W (some ⟨g, 0, none⟩) kc ls := hD.1
  obtain ⟨g2, e2, hg1, hg2, hg3, ho⟩ := hh.at (show 0 < ls.length by omega)
  simp at e2; subst e2
  obtain ⟨cur, hcur⟩ := owns_type ho
  have s1 : SameTy hKeeper.ty W (W.setCell ⟨g, k * 8 + 6, none⟩ (.slice fo' f'.length fc')) := SameTy.set hcur
  have hp1 := s1 p _ _ hp ht.h.symm
  have hev := el_map_val hv hk
  rw [he] at hev
  have hevk : el s.1 k = (kd, mr, wi, up, ch, r, f, ov) := hev
  refine ⟨⟨g, kc, av, ls.set k (kd, mr, wi, up, ch, (ro, rc, r), (fo', fc', f'), ov), ?_, ?_, ?_, ?_, ?_, hlo, by simp [World.setCell]⟩, s1.ints (.inl rfl), hg1⟩
  · rw [hp1, hp]; simp [setFaults]
  · exact hD.newF hk he hF hhi hlh
  · exact s1.own hO (by decide)
  · rw [List.map_set, hv, setFaults, hevk]; rfl
  · rw [List.map_set, ← hr]
    refine el_ext (by simp) fun j hj => ?_
    have hj' : j < ls.length := by simpa using hj
    by_cases e : j = k
    · subst e; rw [el_set_same (by simpa using hj'), el_map _ hj', he]; rfl
    · rw [el_set_other e]
/-- The faults that count at a tick. -/
def recentI (f : List Int) (tick wi : Int) : List Int := above (f.map (capT tick)) (tick - wi) ++ [tick]
theorem recentI_le (f : List Int) (tick wi : Int) : (recentI f tick wi).length ≤ f.length + 1 := by
  have := above_le (f.map (capT tick)) (tick - wi)
  simp [recentI] at *; omega
def gaveV (k : Int) : Value := .iface 81 (.agg #[.int .i64 k])
/-- What bear leaves. -/
def AnsBear (lo hi : Nat) (w : World) (p : Nat) (ra : List (Option Addr × Nat)) (s : St) (k : Nat) (tick : Int) (e : Ending) (w' : World) : Prop :=
  if (recentI (fltP (el s.1 k)) tick (el s.1 k).2.2.1).length > (el s.1 k).2.1 then e = .panicked [{ v := gaveV k, recovered := false }] ∧ LiveW 62 lo hi w' p ra s ∧ Below lo w w' ∧ IntsKept w w'
  else e = .returned (.tuple #[]) ∧ LiveW 62 lo w'.heap.size w' p ra (setFaults s.1 k (recentI (fltP (el s.1 k)) tick (el s.1 k).2.2.1), s.2) ∧ Below lo w w' ∧ IntsKept w w'
end Go.Proofs.YtbpacibfboldcaaDoor
