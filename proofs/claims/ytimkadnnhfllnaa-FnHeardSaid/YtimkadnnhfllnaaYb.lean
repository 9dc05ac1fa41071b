
/- Publish: what it answers, and rows that interleave. No conditions but those written. -/
import Derived.Test.YtimkadnnhfllnaaYa
import Derived.Test.YtimkadnnhfllnaaTx
import Derived.Test.YtimkadnnhfllnaaUa
import Derived.Test.YtimkadnnhfllnaaAo
import Derived.Deep.Cut
namespace Go.Proofs.Ytimkadnnhfllnaa
open Go.RowKit

/-- The ids of those that lose. -/
def losI (ps : List PSub) : List Int := (ps.filter fullB).map (·.1)
theorem losI_le (ps : List PSub) : (losI ps).length ≤ ps.length := by rw [losI, List.length_map]; exact List.length_filter_le _ _
theorem losI_in {ps : List PSub} {k : Nat} (h : k < ps.length) (he : fullB (el ps k) = true) : losI (ps.take (k + 1)) = losI (ps.take k) ++ [(el ps k).1] := by rw [take_succ_el h, losI, List.filter_append, List.map_append]; simp [losI, he]
theorem losI_out {ps : List PSub} {k : Nat} (h : k < ps.length) (he : fullB (el ps k) = false) : losI (ps.take (k + 1)) = losI (ps.take k) := by rw [take_succ_el h, losI, List.filter_append, List.map_append]; simp [losI, he]
/-- What Publish answers. -/
def pubR (sd : Int) (ps : List PSub) (v : Int) : Int × List PSub × List Int × Int :=
  if topicB sd ps then
    if sd = 1000000 then (0, [], [], 1)
    else if (waitI ps).length = 0 then (sd + 1, ps.map (sayP v), losI ps, 0)
    else (sd, ps, waitI ps, 3)
  else (0, [], [], 1)
/-- The first k have heard. -/
def midS (v : Int) (ps : List PSub) (k : Nat) : List PSub := (ps.take k).map (sayP v) ++ ps.drop k
theorem midS_zero (v : Int) (ps : List PSub) : midS v ps 0 = ps := by simp [midS]
theorem midS_end (v : Int) (ps : List PSub) : midS v ps ps.length = ps.map (sayP v) := by simp [midS]
theorem midS_len (v : Int) (ps : List PSub) (k : Nat) : (midS v ps k).length = ps.length := by simp [midS]; omega
theorem drop_el {ps : List PSub} {k : Nat} (h : k < ps.length) : ps.drop k = el ps k :: ps.drop (k + 1) := by rw [el_at h]; exact List.drop_eq_getElem_cons h
theorem midS_succ {v : Int} {ps : List PSub} {k : Nat} (h : k < ps.length) : (midS v ps k).set k (sayP v (el ps k)) = midS v ps (k + 1) := by
  unfold midS
  have hl : ((ps.take k).map (sayP v)).length = k := by simp; omega
  rw [List.set_append_right _ _ (by omega), hl, Nat.sub_self, drop_el h, take_succ_el h]
  simp
theorem midS_el {v : Int} {ps : List PSub} {k : Nat} (h : k < ps.length) : el (midS v ps k) k = el ps k := by
  have hl : ((ps.take k).map (sayP v)).length = k := by simp; omega
  have := el_app_right ((ps.take k).map (sayP v)) (ps.drop k) 0
  rw [hl] at this
  rw [midS, show k = k + 0 by omega]
  rw [Nat.add_zero] at this ⊢
  rw [this, drop_el h]; rfl
theorem hSub_set5 {us : List LSub} {k : Nat} (hk : k < us.length) (a b d : Int) (c : Bool) (go : Option Addr) (qc : Nat) (r : List Int) : (((((hSub.flat us).set (k * 5) (.int .i64 a)).set (k * 5 + 1) (.int .i64 b)).set (k * 5 + 2) (.bool c)).set (k * 5 + 3) (.int .i64 d)).set (k * 5 + 4) (.slice go r.length qc) = hSub.flat (us.set k (a, b, c, d, (go, qc, r))) := by
  rw [hSub_set4 hk, hSub_set1 (by simpa using hk), el_set_same hk, List.set_set]
/-- The world with a Sub stored. -/
def puts5 (W : World) (g k : Nat) (a b d : Int) (c : Bool) (go : Option Addr) (n qc : Nat) : World := ((((W.setCell ⟨g, k * 5, none⟩ (.int .i64 a)).setCell ⟨g, k * 5 + 1, none⟩ (.int .i64 b)).setCell ⟨g, k * 5 + 2, none⟩ (.bool c)).setCell ⟨g, k * 5 + 3, none⟩ (.int .i64 d)).setCell ⟨g, k * 5 + 4, none⟩ (.slice go n qc)
theorem put5_heap (W : World) (g k : Nat) (a b d : Int) (c : Bool) (go : Option Addr) (n qc : Nat) {i : Nat} (h : i ≠ g) : (puts5 W g k a b d c go n qc).heap[i]? = W.heap[i]? := by
  unfold puts5
  rw [Below.heap_setCell _ _ _ _ (by simpa using h), Below.heap_setCell _ _ _ _ (by simpa using h), Below.heap_setCell _ _ _ _ (by simpa using h), Below.heap_setCell _ _ _ _ (by simpa using h), Below.heap_setCell _ _ _ _ (by simpa using h)]
theorem put5_size (W : World) (g k : Nat) (a b d : Int) (c : Bool) (go : Option Addr) (n qc : Nat) : (puts5 W g k a b d c go n qc).heap.size = W.heap.size := by simp [puts5, World.setCell]
theorem put5_below {lo : Nat} {w W : World} (h : Below lo w W) (g k : Nat) (hg : lo ≤ g) (a b d : Int) (c : Bool) (go : Option Addr) (n qc : Nat) : Below lo w (puts5 W g k a b d c go n qc) :=
  ((((h.setCell (p := ⟨g, k * 5, none⟩) hg _).setCell (p := ⟨g, k * 5 + 1, none⟩) hg _).setCell (p := ⟨g, k * 5 + 2, none⟩) hg _).setCell (p := ⟨g, k * 5 + 3, none⟩) hg _).setCell (p := ⟨g, k * 5 + 4, none⟩) hg _
theorem Bx.put5 {W : World} {p : Nat} {us : List Value} (h : Bx W p us) (g k : Nat) (hg : p ≠ g) (a b d : Int) (c : Bool) (go : Option Addr) (n qc : Nat) : Bx (puts5 W g k a b d c go n qc) p us := h.keep (by rw [put5_size]; exact Nat.le_refl _) (put5_heap _ _ _ _ _ _ _ _ _ _ hg)
theorem DFr.put5 {lo hi hi2 : Nat} {W : World} {g c : Nat} {us : List LSub} (h : DFr dSub lo hi W (some ⟨g, 0, none⟩) c us) {k : Nat} (hk : k < us.length) (a b d : Int) (z : Bool) {go : Option Addr} {qc : Nat} {r : List Int} (hF : kI.Fresh hi hi2 W go qc r) (hh : hi ≤ hi2) (hlo : lo ≤ hi) :
    DFr dSub lo hi2 (puts5 W g k a b d z go r.length qc) (some ⟨g, 0, none⟩) c (us.set k (a, b, z, d, (go, qc, r))) := by
  have h1 : hSub.Fresh lo hi W (some ⟨g, 0, none⟩) c us := h.1
  obtain ⟨g2, e2, hg1, hg2, hg3, ho⟩ := h1.at (show 0 < us.length by omega)
  simp at e2; subst e2
  refine DFr.newE h hk ?_ (hF.keep fun i hi' _ _ => put5_heap _ _ _ _ _ _ _ _ _ _ (by omega)) hh hlo fun i hb => put5_heap _ _ _ _ _ _ _ _ _ _ hb
  have hs := (((((World.ownsRow.stored ho (k * 5) (.int .i64 a)).1.stored (k * 5 + 1) (.int .i64 b)).1.stored (k * 5 + 2) (.bool z)).1.stored (k * 5 + 3) (.int .i64 d)).1.stored (k * 5 + 4) (.slice go r.length qc)).1
  rw [hSub_set5 hk] at hs
  refine .inr ⟨g, rfl, hg2, ?_⟩
  unfold puts5
  simpa using hs
/-- A row under way is none of the Subs' queues. -/
def PubA (l : Value) (us : List LSub) : Prop := ∀ b, l.ownBlock = some b → ∀ j, j < us.length → ¬ dSub.own (el us j) b
theorem own_in {lo : Nat} {W : World} {l : Value} {xs : List Int} (h : kI.Own lo W l xs) {b : Nat} (hb : l.ownBlock = some b) : lo ≤ b ∧ b < W.heap.size := by
  rcases h.2 with ⟨e, _⟩ | ⟨g, cap, cur, e, hg, hh, _⟩
  · subst e; simp [Value.ownBlock] at hb
  · subst e
    simp [Value.ownBlock] at hb
    subst hb
    refine ⟨hg, ?_⟩
    rcases Nat.lt_or_ge g W.heap.size with h' | h'
    · exact h'
    · rw [Array.getElem?_eq_none h'] at hh; cases hh
theorem PubA.nil (us : List LSub) : PubA (.slice none 0 0) us := fun b hb => by simp [Value.ownBlock] at hb
theorem PubA.put {lo hi hi2 : Nat} {W W' : World} {l : Value} {xs : List Int} {us : List LSub} (h : PubA l us) (ho : kI.Own lo W l xs) (hW : W.heap.size ≤ hi) {k : Nat} (hk : k < us.length) {a : LSub} (hF : kI.Fresh hi hi2 W' a.2.2.2.2.1 a.2.2.2.2.2.1 a.2.2.2.2.2.2) : PubA l (us.set k a) := by
  intro b hb j hj hob
  have hj' : j < us.length := by simpa using hj
  by_cases e : j = k
  · subst e
    rw [el_set_same hk] at hob
    have h1 := (Kind.Fresh.lt hF hob).1
    have h2 := (own_in ho hb).2
    omega
  · rw [el_set_other e] at hob
    exact h b hb j hj' hob
theorem PubA.app {lo hi : Nat} {W : World} {l l' : Value} {us : List LSub} {o : Option Addr} {c : Nat} (h : PubA l us) (hD : DFr dSub lo hi W o c us) (hw : ∀ g, l'.ownBlock = some g → l.ownBlock = some g ∨ W.heap.size ≤ g) : PubA l' us := by
  intro b hb j hj hob
  rcases hw b hb with h1 | h1
  · exact h b h1 j hj hob
  · have := (dSub_ok.lt (hD.2.1 j hj) hob).2.2.1
    omega
theorem DFr.grown {lo hi lo' : Nat} {W W' : World} {l : Value} {xs : List Int} {us : List LSub} {o : Option Addr} {c : Nat} (h : DFr dSub lo hi W o c us) (hg : W.grownBy W' l.ownBlock) (ho : kI.Own lo' W l xs) (hA : PubA l us) (hh : ∀ b, rowOwn o us b → b < lo') : DFr dSub lo hi W' o c us := by
  have h1 : hSub.Fresh lo hi W o c us := h.1
  refine ⟨(show hSub.Fresh _ _ _ _ _ _ from h1.keepB fun b hb => hg.block b (h1.lt hb).2.2.1 fun e => ?_), fun j hj => dSub_ok.keep (h.2.1 j hj) fun b hb => hg.block b (dSub_ok.lt (h.2.1 j hj) hb).2.2.1 fun e => hA b e.symm j hj hb, h.2.2⟩
  have h2 := (own_in ho e.symm).1
  have h3 := hh b hb
  omega
theorem PubA.apart {go : Option Addr} {n qc : Nat} {us : List LSub} {xs : List Int} (h : PubA (.slice go n qc) us) : Apart us go xs := fun b hb j hj ho => h b (by rw [hb.2]; rfl) j hj ho
end Go.Proofs.Ytimkadnnhfllnaa
