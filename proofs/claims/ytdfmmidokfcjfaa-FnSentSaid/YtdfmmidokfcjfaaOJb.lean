
/- The specification's sending on a channel of its own. No conditions but those written. -/
import Derived.Test.YtdfmmidokfcjfaaOJa
import Derived.Test.YtdfmmidokfcjfaaTk
import Derived.Test.YtdfmmidokfcjfaaAo
namespace Go.Proofs.Ytdfmmidokfcjfaa.Old
open Go.RowKit

/-- As AnsU, with rows from lo on, which may be written. -/
def AnsV (lo : Nat) (w : World) (R : Int × Bool × List Int × List T3 × List T3 × List T4 × Int) (e : Ending) (w' : World) : Prop :=
  (∃ bo bc so sc ro rc ko kc, e = .returned (.tuple #[.agg #[.int .i64 R.1, .bool R.2.1, .slice bo R.2.2.1.length bc, .slice so R.2.2.2.1.length sc, .slice ro R.2.2.2.2.1.length rc], .slice ko R.2.2.2.2.2.1.length kc, .int .i64 R.2.2.2.2.2.2]) ∧ FreshCh lo w'.heap.size w' bo bc R.2.2.1 so sc R.2.2.2.1 ro rc R.2.2.2.2.1 ∧ FreshK lo w'.heap.size w' ko kc R.2.2.2.2.2.1 ∧ Wf3 bo bc so sc ro rc) ∧ Below lo w w'
theorem AnsV.ansU {w W : World} {R : Int × Bool × List Int × List T3 × List T3 × List T4 × Int} {e : Ending} {w' : World} (h : AnsV w.heap.size W R e w') (hB : Below w.heap.size w W) : AnsU w R e w' := ⟨h.1, hB.trans h.2⟩

theorem tcells_flat (ts : List T3) : tcells ts = kT.flat ts := kT.flat_of _ _ (tcells_len ts) fun j hj i hi => by
  have hi' : i < 3 := hi
  have h := tcells_at ts j hj
  rcases (show i = 0 ∨ i = 1 ∨ i = 2 from by omega) with rfl | rfl | rfl
  · exact h.1
  · exact h.2.1
  · exact h.2.2
theorem ownV_kind {lo : Nat} {W : World} {v : Value} {xs : List T3} : OwnV lo W v xs ↔ kT.Own lo W v xs := by
  unfold OwnV Kind.Own
  rw [tcells_flat]
  rfl
theorem timers_kind {n : Nat} {W : World} {ao : Option Addr} {ts : List T3} (h : TimersIn n W ao ts) : kT.In n W ao ts := by
  rcases h with h | ⟨b, off, e, hb, hc⟩
  · exact .inl h
  · refine .inr ⟨b, off, e, hb, fun j hj i hi => ?_⟩
    have hi' : i < 3 := hi
    have h := hc j hj
    rcases (show i = 0 ∨ i = 1 ∨ i = 2 from by omega) with rfl | rfl | rfl
    · exact h.1
    · exact h.2.1
    · exact h.2.2
/-- Waiters are put behind a row of its own: it stays in its block, or lies in a new one. -/
theorem wpList_appWat {ops : Array Oper} {rest : List Oper} {o : Oper} {a : Act} {Q : Exit → Act → World → Prop} (W : World) (hg : o.guard = none) (s x : Operand) (hop : o.op = Op.call { callee := Callee.builtin Builtin.append, args := #[s, x], argTypes := #[24, 24] })
    (lo : Nat) (v : Value) (xs : List T3) (hs : a.eval s = v) (hown : OwnV lo W v xs) (hlo : lo ≤ W.heap.size)
    (ad : Addr) (ys : List T3) (m c : Nat) (hx : a.eval x = .slice (some ad) m c) (hm : ys.length = m) (n : Nat) (hz : TimersIn n W (some ad) ys) (hl : xs.length + ys.length ≤ 4194304)
    (hK : ∀ v' w', OwnV lo w' v' (xs ++ ys) → Below lo W w' → W.grownBy w' v.ownBlock → (∀ g, v'.ownBlock = some g → v.ownBlock = some g ∨ W.heap.size ≤ g) → wpList Try.prog ops Q rest (a.put o.dst v') w') :
    wpList Try.prog ops Q (o :: rest) a W :=
  Kind.appN kT_ok W hg s x hop lo v xs hs (ownV_kind.1 hown) hlo (some ad) ys m c hx hm (fun e => by cases e) n (timers_kind hz) hl fun v' w' h1 h2 h3 h4 => hK v' w' (ownV_kind.2 h1) h2 h3 h4
theorem own_more {lo : Nat} {W : World} {v : Value} {xs : List T3} (h : OwnV lo W v xs) (hn : 0 < xs.length) : v ≠ .slice none 0 0 := by
  intro e
  rcases h.2 with ⟨_, h0⟩ | ⟨g, cap, cur, e', _⟩
  · omega
  · rw [e] at e'; simp at e'
theorem heap_new (W : World) (o : Obj) : (W.alloc o).heap[W.heap.size]? = some o := by show (W.heap.push _)[W.heap.size]? = _; simp
theorem ints_new (U : World) (v : Int) {q : Nat} (h : U.heap.size = q) : IntsIn (U.alloc (.cells #[.int .i64 v] 3)).heap.size (U.alloc (.cells #[.int .i64 v] 3)) (some ⟨q, 0, none⟩) [v] := by
  subst h
  refine .inr ⟨_, _, rfl, by simp, fun j hj => ?_⟩
  obtain rfl : j = 0 := by simpa using hj
  simp
theorem timers_new (U : World) (t1 t2 tv : Int) {q : Nat} (h : U.heap.size = q) : TimersIn (U.alloc (.cells #[.int .i64 t1, .int .i64 t2, .int .i64 tv] 28)).heap.size (U.alloc (.cells #[.int .i64 t1, .int .i64 t2, .int .i64 tv] 28)) (some ⟨q, 0, none⟩) [(t1, t2, tv)] := by
  subst h
  refine .inr ⟨_, _, rfl, by simp, fun j hj => ?_⟩
  obtain rfl : j = 0 := by simpa using hj
  simp [t3]
theorem some_apart {g h : Nat} (e : g ≠ h) : (some (⟨g, 0, none⟩ : Addr)) ≠ some ⟨h, 0, none⟩ := by intro hh; cases hh; exact e rfl
theorem wf3_some {x y z : Addr} {a b c : Nat} : Wf3 (some x) a (some y) b (some z) c := ⟨fun h => by simp at h, fun h => by simp at h, fun h => by simp at h⟩
theorem SI.apart {lo lo' hi hi' : Nat} {W : World} {g c g' c' : Nat} {b : List Int} {s : List T3} (h : SI lo hi W g c b) (h' : SC lo' hi' W g' c' s) : g ≠ g' := by
  intro e
  subst e
  rcases h.2.2 with ⟨e, _⟩ | ⟨g1, cap, cur, e, _, hh, _⟩
  · simp at e
  rcases h'.2.2 with ⟨e', _⟩ | ⟨g2, cap', cur', e', _, hh', _⟩
  · simp at e'
  simp at e e'
  obtain ⟨rfl, _⟩ := e
  obtain ⟨rfl, _⟩ := e'
  rw [hh] at hh'
  simp at hh'
theorem ansV_same {lo : Nat} {w W : World} {kap : Int} {cl : Bool} {gb bc : Nat} {b : List Int} {gs sc : Nat} {s : List T3} {gr rc : Nat} {r : List T3} {c : Int} (hlo : lo ≤ w.heap.size) (hB : Below w.heap.size w W) (hb : SI lo w.heap.size w gb bc b) (hs : SC lo w.heap.size w gs sc s) (hr : SC lo w.heap.size w gr rc r) (hgg : gs ≠ gr) :
    AnsV lo w (kap, cl, b, s, r, [], c) (.returned (.tuple #[.agg #[.int .i64 kap, .bool cl, .slice (some ⟨gb, 0, none⟩) b.length bc, .slice (some ⟨gs, 0, none⟩) s.length sc, .slice (some ⟨gr, 0, none⟩) r.length rc], .slice none 0 0, .int .i64 c])) W :=
  ⟨⟨some ⟨gb, 0, none⟩, bc, some ⟨gs, 0, none⟩, sc, some ⟨gr, 0, none⟩, rc, none, 0, rfl, ⟨((hb.later hB).wide (Nat.le_refl _) hB.size).fresh, ((hs.later hB).wide (Nat.le_refl _) hB.size).fresh, ((hr.later hB).wide (Nat.le_refl _) hB.size).fresh, .inr (.inr (some_apart hgg))⟩, freshK_nil _ _ _, wf3_some⟩, hB.mono hlo⟩

set_option maxRecDepth 10000 in
set_option maxHeartbeats 4000000 in
theorem l3Send_closed (kap : Int) (gb bc : Nat) (b : List Int) (gs sc : Nat) (s : List T3) (gr rc : Nat) (r : List T3) (t1 t2 tv : Int) (lo : Nat) (w : World) (hlo : lo ≤ w.heap.size) (hb : SI lo w.heap.size w gb bc b) (hs : SC lo w.heap.size w gs sc s) (hr : SC lo w.heap.size w gr rc r) (hgg : gs ≠ gr)  :
    Calls Try.prog 22 #[.agg #[.int .i64 kap, .bool true, .slice (some ⟨gb, 0, none⟩) b.length bc, .slice (some ⟨gs, 0, none⟩) s.length sc, .slice (some ⟨gr, 0, none⟩) r.length rc], .agg #[.int .i64 t1, .int .i64 t2, .int .i64 tv]] w fun e w' => AnsV lo w (kap, true, b, s, r, [], 3) e w' := by
  go_enter Try.func22, Try.ntmps22
  go_wp2
  refine bodyPost_ret (v := .tuple #[.agg #[.int .i64 kap, .bool true, .slice (some ⟨gb, 0, none⟩) b.length bc, .slice (some ⟨gs, 0, none⟩) s.length sc, .slice (some ⟨gr, 0, none⟩) r.length rc], .slice none 0 0, .int .i64 3]) (by simp [results, Try.results22, go_sem]) rfl ?_
  exact ansV_same hlo (below3 _ _ _ _) hb hs hr hgg
set_option maxRecDepth 10000 in
set_option maxHeartbeats 4000000 in
theorem l3Send_full (kap : Int) (gb bc : Nat) (b : List Int) (gs sc : Nat) (s : List T3) (gr rc : Nat) (r : List T3) (t1 t2 tv : Int) (lo : Nat) (w : World) (hlo : lo ≤ w.heap.size) (hb : SI lo w.heap.size w gb bc b) (hs : SC lo w.heap.size w gs sc s) (hr : SC lo w.heap.size w gr rc r) (hgg : gs ≠ gr) (h0 : r.length = 0) (hk : ¬ (b.length : Int) < kap) (h40 : s.length = 40) :
    Calls Try.prog 22 #[.agg #[.int .i64 kap, .bool false, .slice (some ⟨gb, 0, none⟩) b.length bc, .slice (some ⟨gs, 0, none⟩) s.length sc, .slice (some ⟨gr, 0, none⟩) r.length rc], .agg #[.int .i64 t1, .int .i64 t2, .int .i64 tv]] w fun e w' => AnsV lo w (kap, false, b, s, r, [], 5) e w' := by
  obtain ⟨zr, pr, qr⟩ := len0 h0
  clear h0
  have hk' : decide ((b.length : Int) < kap) = false := decide_eq_false hk
  have hf : ((s.length : Int) == 40) = true := by rw [h40]; rfl
  clear h40
  go_enter Try.func22, Try.ntmps22
  go_wp2
  refine bodyPost_ret (v := .tuple #[.agg #[.int .i64 kap, .bool false, .slice (some ⟨gb, 0, none⟩) b.length bc, .slice (some ⟨gs, 0, none⟩) s.length sc, .slice (some ⟨gr, 0, none⟩) r.length rc], .slice none 0 0, .int .i64 5]) (by simp [results, Try.results22, go_sem]) rfl ?_
  exact ansV_same hlo (below3 _ _ _ _) hb hs hr hgg
theorem wpList_appIg {ops : Array Oper} {rest : List Oper} {o : Oper} {a : Act} {Q : Exit → Act → World → Prop} (W : World) (hg : o.guard = none) (s x : Operand) (hop : o.op = Op.call { callee := Callee.builtin Builtin.append, args := #[s, x], argTypes := #[23, 23] })
    (lo : Nat) (v : Value) (xs : List Int) (hs : a.eval s = v) (hown : OwnZ lo W v xs) (hlo : lo ≤ W.heap.size)
    (ad : Addr) (ys : List Int) (m c : Nat) (hx : a.eval x = .slice (some ad) m c) (hm : ys.length = m) (n : Nat) (hz : IntsIn n W (some ad) ys) (hl : xs.length + ys.length ≤ 4194304)
    (hK : ∀ v' w', OwnZ lo w' v' (xs ++ ys) → Below lo W w' → W.grownBy w' v.ownBlock → (v' = .slice none 0 0 ↔ v = .slice none 0 0 ∧ m = 0) → wpList Try.prog ops Q rest (a.put o.dst v') w') :
    wpList Try.prog ops Q (o :: rest) a W := by
  obtain ⟨i0, hin, hz0, hz1, hz2⟩ := info_parts Try.info3
  subst hm
  have hsrc : ∀ j u, (ys.map (Value.int .i64))[j]? = some u → W.cell? (ad.add j) = some u := by
    rcases hz with rfl | ⟨b, off, e, hb, hc⟩
    · intro j u h; simp at h
    · cases e; exact ints_src (Below.refl _ _) hb hc
  refine wpList_append_own W hg s x 23 hop lo 3 i0 (.int .i64 0) 1 8 Try.underlying23 hin hz0 hz1 hz2 rfl (by decide) v xs.length (xs.map (Value.int .i64)) hs hown ad ys.length c (ys.map (Value.int .i64)) hx (by simp) hsrc (ints_one ys) (by unfold maxLen; omega) (by omega) hlo ?_
  intro v' w' ho hgr hnil
  refine hK v' w' ?_ (hown.belowG hgr hlo) hgr hnil
  unfold OwnZ
  rw [List.map_append, List.length_append]; exact ho
theorem BoxF5.same {W W' : World} {p : Nat} {u0 u1 u2 u3 u4 : Value} (h : BoxF5 W p u0 u1 u2 u3 u4) (hs : SameAt p W W') (hz : W.heap.size ≤ W'.heap.size) : BoxF5 W' p u0 u1 u2 u3 u4 :=
  ⟨⟨Nat.lt_of_lt_of_le h.1.1 hz, (hs.cell _).trans h.1.2.1, (hs.cell _).trans h.1.2.2.1, (hs.cell _).trans h.1.2.2.2.1, (hs.cell _).trans h.1.2.2.2.2.1, (hs.cell _).trans h.1.2.2.2.2.2⟩, (hs.frozen _).trans h.2.1, (hs.frozen _).trans h.2.2.1, (hs.frozen _).trans h.2.2.2.1, (hs.frozen _).trans h.2.2.2.2.1, (hs.frozen _).trans h.2.2.2.2.2⟩
theorem SI.notBox {lo hi : Nat} {W : World} {g c k ty : Nat} {b : List Int} {o : Array Value} (h : SI lo hi W g c b) (hk : W.heap[k]? = some (.cells o ty)) (ht : ty ≠ 3) : g ≠ k := by
  intro e
  subst e
  rcases h.2.2 with ⟨e, _⟩ | ⟨g1, cap, cur, e, _, hh, _⟩
  · simp at e
  simp at e
  obtain ⟨rfl, _⟩ := e
  rw [hh] at hk
  simp at hk
  exact ht hk.2.symm
theorem SC.notBox {lo hi : Nat} {W : World} {g c k ty : Nat} {b : List T3} {o : Array Value} (h : SC lo hi W g c b) (hk : W.heap[k]? = some (.cells o ty)) (ht : ty ≠ 28) : g ≠ k := by
  intro e
  subst e
  rcases h.2.2 with ⟨e, _⟩ | ⟨g1, cap, cur, e, _, hh, _⟩
  · simp at e
  simp at e
  obtain ⟨rfl, _⟩ := e
  rw [hh] at hk
  simp at hk
  exact ht hk.2.symm
theorem SI.keepAt {lo hi : Nat} {W W' : World} {g c : Nat} {b : List Int} (h : SI lo hi W g c b) (hk : SameAt g W W') : SI lo hi W' g c b := ⟨h.1, owns_block h.2 hk⟩
theorem SC.keepAt {lo hi : Nat} {W W' : World} {g c : Nat} {b : List T3} (h : SC lo hi W g c b) (hk : SameAt g W W') : SC lo hi W' g c b := ⟨h.1, owns_block h.2 hk⟩
theorem SI.setNe {lo hi : Nat} {W : World} {g c : Nat} {b : List Int} (h : SI lo hi W g c b) {a : Addr} (ha : g ≠ a.block) (u : Value) : SI lo hi (W.setCell a u) g c b := ⟨h.1, owns_block h.2 (Below.heap_setCell W a u g (by omega))⟩
theorem SC.setNe {lo hi : Nat} {W : World} {g c : Nat} {b : List T3} (h : SC lo hi W g c b) {a : Addr} (ha : g ≠ a.block) (u : Value) : SC lo hi (W.setCell a u) g c b := ⟨h.1, owns_block h.2 (Below.heap_setCell W a u g (by omega))⟩
/-- One field written, then the channel laid into the answer's box. -/
theorem ansV_box {lo p q i : Nat} {w W : World} {kap : Int} {cl : Bool} {gb bc : Nat} {b : List Int} {gs sc : Nat} {s : List T3} {gr rc : Nat} {r : List T3} {c : Int} (hB : Below lo w W) (hb : SI lo W.heap.size W gb bc b) (hs : SC lo W.heap.size W gs sc s) (hr : SC lo W.heap.size W gr rc r) (hap : Apart (some ⟨gs, 0, none⟩) sc s (some ⟨gr, 0, none⟩) rc r) (hp : lo ≤ p) (hq : lo ≤ q) (np : gb ≠ p ∧ gs ≠ p ∧ gr ≠ p) (nq : gb ≠ q ∧ gs ≠ q ∧ gr ≠ q) (u u0 u1 u2 u3 u4 : Value) :
    AnsV lo w (kap, cl, b, s, r, [], c) (.returned (.tuple #[.agg #[.int .i64 kap, .bool cl, .slice (some ⟨gb, 0, none⟩) b.length bc, .slice (some ⟨gs, 0, none⟩) s.length sc, .slice (some ⟨gr, 0, none⟩) r.length rc], .slice none 0 0, .int .i64 c])) ((((((W.setCell ⟨p, i, none⟩ u).setCell ⟨q, 0, none⟩ u0).setCell ⟨q, 1, none⟩ u1).setCell ⟨q, 2, none⟩ u2).setCell ⟨q, 3, none⟩ u3).setCell ⟨q, 4, none⟩ u4) := by
  refine ⟨⟨some ⟨gb, 0, none⟩, bc, some ⟨gs, 0, none⟩, sc, some ⟨gr, 0, none⟩, rc, none, 0, rfl, ⟨?_, ?_, ?_, hap⟩, freshK_nil _ _ _, wf3_some⟩, ?_⟩
  · exact (((((((hb.setNe (a := ⟨p, i, none⟩) np.1 _).setNe (a := ⟨q, 0, none⟩) nq.1 _).setNe (a := ⟨q, 1, none⟩) nq.1 _).setNe (a := ⟨q, 2, none⟩) nq.1 _).setNe (a := ⟨q, 3, none⟩) nq.1 _).setNe (a := ⟨q, 4, none⟩) nq.1 _).wide (Nat.le_refl _) (by simp)).fresh
  · exact (((((((hs.setNe (a := ⟨p, i, none⟩) np.2.1 _).setNe (a := ⟨q, 0, none⟩) nq.2.1 _).setNe (a := ⟨q, 1, none⟩) nq.2.1 _).setNe (a := ⟨q, 2, none⟩) nq.2.1 _).setNe (a := ⟨q, 3, none⟩) nq.2.1 _).setNe (a := ⟨q, 4, none⟩) nq.2.1 _).wide (Nat.le_refl _) (by simp)).fresh
  · exact (((((((hr.setNe (a := ⟨p, i, none⟩) np.2.2 _).setNe (a := ⟨q, 0, none⟩) nq.2.2 _).setNe (a := ⟨q, 1, none⟩) nq.2.2 _).setNe (a := ⟨q, 2, none⟩) nq.2.2 _).setNe (a := ⟨q, 3, none⟩) nq.2.2 _).setNe (a := ⟨q, 4, none⟩) nq.2.2 _).wide (Nat.le_refl _) (by simp)).fresh
  · exact (((((hB.setCell (p := ⟨p, i, none⟩) hp _).setCell (p := ⟨q, 0, none⟩) hq _).setCell (p := ⟨q, 1, none⟩) hq _).setCell (p := ⟨q, 2, none⟩) hq _).setCell (p := ⟨q, 3, none⟩) hq _).setCell (p := ⟨q, 4, none⟩) hq _

set_option maxRecDepth 10000 in
set_option maxHeartbeats 4000000 in
theorem l3Send_buffer (kap : Int) (gb bc : Nat) (b : List Int) (gs sc : Nat) (s : List T3) (gr rc : Nat) (r : List T3) (t1 t2 tv : Int) (lo : Nat) (w : World) (hlo : lo ≤ w.heap.size) (hl : b.length ≤ 1048576) (hb : SI lo w.heap.size w gb bc b) (hs : SC lo w.heap.size w gs sc s) (hr : SC lo w.heap.size w gr rc r) (hgg : gs ≠ gr) (h0 : r.length = 0) (hk : (b.length : Int) < kap) :
    Calls Try.prog 22 #[.agg #[.int .i64 kap, .bool false, .slice (some ⟨gb, 0, none⟩) b.length bc, .slice (some ⟨gs, 0, none⟩) s.length sc, .slice (some ⟨gr, 0, none⟩) r.length rc], .agg #[.int .i64 t1, .int .i64 t2, .int .i64 tv]] w fun e w' => AnsV lo w (kap, false, b ++ [tv], s, r, [], 0) e w' := by
  obtain ⟨zr, pr, qr⟩ := len0 h0
  have HR0 : Hid (r = []) := List.length_eq_zero_iff.1 h0
  clear h0
  have hk' : decide ((b.length : Int) < kap) = true := decide_eq_true hk
  obtain ⟨V, hV⟩ : ∃ V, V = ((((w.alloc (.cells #[.int .i64 kap, .bool false, .slice (some ⟨gb, 0, none⟩) b.length bc, .slice (some ⟨gs, 0, none⟩) s.length sc, .slice (some ⟨gr, 0, none⟩) r.length rc] 26)).alloc (.cells #[.int .i64 t1, .int .i64 t2, .int .i64 tv] 28)).alloc (.cells #[.int .i64 0, .bool false, .slice none 0 0, .slice none 0 0, .slice none 0 0] 26)).alloc (.cells #[.int .i64 tv] 3)) := ⟨_, rfl⟩
  have hBV : Below w.heap.size w V := by rw [hV]; exact (below3 _ _ _ _).alloc (by simp; omega) _
  have hSV : V.heap.size = w.heap.size + 1 + 1 + 1 + 1 := by rw [hV]; simp
  have k0 : V.heap[w.heap.size]? = some (.cells #[.int .i64 kap, .bool false, .slice (some ⟨gb, 0, none⟩) b.length bc, .slice (some ⟨gs, 0, none⟩) s.length sc, .slice (some ⟨gr, 0, none⟩) r.length rc] 26) := by rw [hV]; exact ((below3 (w.alloc (.cells #[.int .i64 kap, .bool false, .slice (some ⟨gb, 0, none⟩) b.length bc, .slice (some ⟨gs, 0, none⟩) s.length sc, .slice (some ⟨gr, 0, none⟩) r.length rc] 26)) (.cells #[.int .i64 t1, .int .i64 t2, .int .i64 tv] 28) (.cells #[.int .i64 0, .bool false, .slice none 0 0, .slice none 0 0, .slice none 0 0] 26) (.cells #[.int .i64 tv] 3)).block w.heap.size (by simp)).trans (heap_new w _)
  have k2 : V.heap[w.heap.size + 1 + 1]? = some (.cells #[.int .i64 0, .bool false, .slice none 0 0, .slice none 0 0, .slice none 0 0] 26) := by
    have h := heap_new ((w.alloc (.cells #[.int .i64 kap, .bool false, .slice (some ⟨gb, 0, none⟩) b.length bc, .slice (some ⟨gs, 0, none⟩) s.length sc, .slice (some ⟨gr, 0, none⟩) r.length rc] 26)).alloc (.cells #[.int .i64 t1, .int .i64 t2, .int .i64 tv] 28)) (.cells #[.int .i64 0, .bool false, .slice none 0 0, .slice none 0 0, .slice none 0 0] 26)
    have e : ((w.alloc (.cells #[.int .i64 kap, .bool false, .slice (some ⟨gb, 0, none⟩) b.length bc, .slice (some ⟨gs, 0, none⟩) s.length sc, .slice (some ⟨gr, 0, none⟩) r.length rc] 26)).alloc (.cells #[.int .i64 t1, .int .i64 t2, .int .i64 tv] 28)).heap.size = w.heap.size + 1 + 1 := by simp
    rw [e] at h
    rw [hV]; exact ((below1 (((w.alloc (.cells #[.int .i64 kap, .bool false, .slice (some ⟨gb, 0, none⟩) b.length bc, .slice (some ⟨gs, 0, none⟩) s.length sc, .slice (some ⟨gr, 0, none⟩) r.length rc] 26)).alloc (.cells #[.int .i64 t1, .int .i64 t2, .int .i64 tv] 28)).alloc (.cells #[.int .i64 0, .bool false, .slice none 0 0, .slice none 0 0, .slice none 0 0] 26)) (.cells #[.int .i64 tv] 3)).block (w.heap.size + 1 + 1) (by simp)).trans h
  have A4 : BoxF5 V w.heap.size (.int .i64 kap) (.bool false) (.slice (some ⟨gb, 0, none⟩) b.length bc) (.slice (some ⟨gs, 0, none⟩) s.length sc) (.slice (some ⟨gr, 0, none⟩) r.length rc) := by
    rw [hV]; exact (BoxF5.new w _ _ _ _ _ _).later (below3 _ _ _ _)
  have R4 : BoxF5 V (w.heap.size + 1 + 1) (.int .i64 0) (.bool false) (.slice none 0 0) (.slice none 0 0) (.slice none 0 0) := by
    have h := (BoxF5.new ((w.alloc (.cells #[.int .i64 kap, .bool false, .slice (some ⟨gb, 0, none⟩) b.length bc, .slice (some ⟨gs, 0, none⟩) s.length sc, .slice (some ⟨gr, 0, none⟩) r.length rc] 26)).alloc (.cells #[.int .i64 t1, .int .i64 t2, .int .i64 tv] 28)) (.int .i64 0) (.bool false) (.slice none 0 0) (.slice none 0 0) (.slice none 0 0) 26).later (below1 _ (.cells #[.int .i64 tv] 3))
    rw [hV]; simpa using h
  have HZ : Hid (IntsIn V.heap.size V (some ⟨w.heap.size + 1 + 1 + 1, 0, none⟩) [tv]) := by
    rw [hV]; exact ints_new _ _ (by simp)
  have HO : Hid (OwnZ lo V (.slice (some ⟨gb, 0, none⟩) b.length bc) b) := (hb.later hBV).2
  have HV : Hid (V = ((((w.alloc (.cells #[.int .i64 kap, .bool false, .slice (some ⟨gb, 0, none⟩) b.length bc, .slice (some ⟨gs, 0, none⟩) s.length sc, .slice (some ⟨gr, 0, none⟩) r.length rc] 26)).alloc (.cells #[.int .i64 t1, .int .i64 t2, .int .i64 tv] 28)).alloc (.cells #[.int .i64 0, .bool false, .slice none 0 0, .slice none 0 0, .slice none 0 0] 26)).alloc (.cells #[.int .i64 tv] 3))) := hV
  have HX : Hid (SI lo w.heap.size V gb bc b ∧ SC lo w.heap.size V gs sc s ∧ SC lo w.heap.size V gr rc r ∧ gb ≠ gs ∧ gb ≠ gr ∧ gs ≠ gr) := ⟨hb.later hBV, hs.later hBV, hr.later hBV, hb.apart hs, hb.apart hr, hgg⟩
  have HK : Hid (V.heap[w.heap.size]? = some (.cells #[.int .i64 kap, .bool false, .slice (some ⟨gb, 0, none⟩) b.length bc, .slice (some ⟨gs, 0, none⟩) s.length sc, .slice (some ⟨gr, 0, none⟩) r.length rc] 26) ∧ V.heap[w.heap.size + 1 + 1]? = some (.cells #[.int .i64 0, .bool false, .slice none 0 0, .slice none 0 0, .slice none 0 0] 26)) := ⟨k0, k2⟩
  have HSV : Hid (V.heap.size = w.heap.size + 1 + 1 + 1 + 1) := hSV
  have HBX : Hid (Below w.heap.size w V) := hBV
  have HGG : Hid (gs ≠ gr) := hgg
  clear hV hb hs hr hgg k0 k2 hSV hBV
  go_enter Try.func22, Try.ntmps22
  go_wp2_with (at_builtin; rw [← HV.out]; refine wpList_appIg V rfl (.tmp 43) (.tmp 46) rfl lo (.slice (some ⟨gb, 0, none⟩) b.length bc) b rfl HO.out (by rw [HSV.out]; omega) ⟨w.heap.size + 1 + 1 + 1, 0, none⟩ [tv] 1 1 rfl rfl _ HZ.out (by simp; omega) ?_; intro v5 w5 hO5 hB5 hg5 hn5; obtain ⟨g5, c5, rfl, hF5⟩ := OwnZ.strong hO5 (fun e => some_ne (hn5.1 e).1); have g1 : gb < w.heap.size := HX.out.1.1; have ow : (Value.slice (some ⟨gb, 0, none⟩) b.length bc).ownBlock = some gb := rfl; have hs0 : ∀ k, k < V.heap.size → k ≠ gb → SameAt k V w5 := (fun k h1 h2 => hg5.block k h1 (by rw [ow]; intro e; exact h2 (Option.some.inj e))); have h0' := hs0 w.heap.size (by rw [HSV.out]; omega) (by omega); have h2' := hs0 (w.heap.size + 1 + 1) (by rw [HSV.out]; omega) (by omega); have A5 := A4.same h0' hg5.size; have R5 := R4.same h2' hg5.size; have z5 := hg5.size; rw [HSV.out] at z5; have K5 : Hid (w5.heap[w.heap.size]? = some (.cells #[.int .i64 kap, .bool false, .slice (some ⟨gb, 0, none⟩) b.length bc, .slice (some ⟨gs, 0, none⟩) s.length sc, .slice (some ⟨gr, 0, none⟩) r.length rc] 26) ∧ w5.heap[w.heap.size + 1 + 1]? = some (.cells #[.int .i64 0, .bool false, .slice none 0 0, .slice none 0 0, .slice none 0 0] 26) ∧ w.heap.size + 1 + 1 + 1 + 1 ≤ w5.heap.size) := ⟨h0'.trans HK.out.1, h2'.trans HK.out.2, z5⟩; have F5 : Hid (SI lo w5.heap.size w5 g5 c5 (b ++ [tv])) := hF5; have X5 : Hid (SC lo w.heap.size w5 gs sc s ∧ SC lo w.heap.size w5 gr rc r) := ⟨HX.out.2.1.keepAt (hs0 gs (owns_lt HX.out.2.1.2).2 HX.out.2.2.2.1.symm), HX.out.2.2.1.keepAt (hs0 gr (owns_lt HX.out.2.2.1.2).2 HX.out.2.2.2.2.1.symm)⟩; have B5 : Hid (Below lo w w5) := (HBX.out.mono hlo).trans hB5; clear hO5 hB5 hn5 hF5 hg5 hs0 h0' h2' z5 A4 R4 HV HZ HO; obtain ⟨⟨_, a0, a1, a2, a3, a4⟩, af0, af1, af2, af3, af4⟩ := id A5; obtain ⟨⟨_, r0, r1, r2, r3, r4⟩, rf0, rf1, rf2, rf3, rf4⟩ := id R5)
  refine bodyPost_ret (v := .tuple #[.agg #[.int .i64 kap, .bool false, .slice (some ⟨g5, 0, none⟩) (b.length + 1) c5, .slice (some ⟨gs, 0, none⟩) s.length sc, .slice (some ⟨gr, 0, none⟩) r.length rc], .slice none 0 0, .int .i64 0]) (by simp [results, Try.results22, go_sem, r0, r1, r2, r3, r4]) rfl ?_
  have e1 : b.length + 1 = (b ++ [tv]).length := by simp
  have z5 := K5.out.2.2
  have x1 := X5.out.1.1
  have x2 := X5.out.2.1
  rw [e1]
  exact ansV_box B5.out F5.out (X5.out.1.wide (Nat.le_refl _) (by omega)) (X5.out.2.wide (Nat.le_refl _) (by omega)) (.inr (.inr (some_apart HGG.out))) hlo (by omega) ⟨F5.out.notBox K5.out.1 (by decide), by omega, by omega⟩ ⟨F5.out.notBox K5.out.2.1 (by decide), by omega, by omega⟩ _ _ _ _ _ _
set_option maxRecDepth 10000 in
set_option maxHeartbeats 4000000 in
theorem l3Send_wait (kap : Int) (gb bc : Nat) (b : List Int) (gs sc : Nat) (s : List T3) (gr rc : Nat) (r : List T3) (t1 t2 tv : Int) (lo : Nat) (w : World) (hlo : lo ≤ w.heap.size) (hls : s.length ≤ 1048576) (hb : SI lo w.heap.size w gb bc b) (hs : SC lo w.heap.size w gs sc s) (hr : SC lo w.heap.size w gr rc r) (hgg : gs ≠ gr) (h0 : r.length = 0) (hk : ¬ (b.length : Int) < kap) (h40 : s.length ≠ 40) :
    Calls Try.prog 22 #[.agg #[.int .i64 kap, .bool false, .slice (some ⟨gb, 0, none⟩) b.length bc, .slice (some ⟨gs, 0, none⟩) s.length sc, .slice (some ⟨gr, 0, none⟩) r.length rc], .agg #[.int .i64 t1, .int .i64 t2, .int .i64 tv]] w fun e w' => AnsV lo w (kap, false, b, s ++ [(t1, t2, tv)], r, [], 1) e w' := by
  obtain ⟨zr, pr, qr⟩ := len0 h0
  have HR0 : Hid (r = []) := List.length_eq_zero_iff.1 h0
  clear h0
  have hk' : decide ((b.length : Int) < kap) = false := decide_eq_false hk
  have hf : ((s.length : Int) == 40) = false := by rw [beq_eq_false_iff_ne]; omega
  obtain ⟨V, hV⟩ : ∃ V, V = ((((w.alloc (.cells #[.int .i64 kap, .bool false, .slice (some ⟨gb, 0, none⟩) b.length bc, .slice (some ⟨gs, 0, none⟩) s.length sc, .slice (some ⟨gr, 0, none⟩) r.length rc] 26)).alloc (.cells #[.int .i64 t1, .int .i64 t2, .int .i64 tv] 28)).alloc (.cells #[.int .i64 0, .bool false, .slice none 0 0, .slice none 0 0, .slice none 0 0] 26)).alloc (.cells #[.int .i64 t1, .int .i64 t2, .int .i64 tv] 28)) := ⟨_, rfl⟩
  have hBV : Below w.heap.size w V := by rw [hV]; exact (below3 _ _ _ _).alloc (by simp; omega) _
  have hSV : V.heap.size = w.heap.size + 1 + 1 + 1 + 1 := by rw [hV]; simp
  have k0 : V.heap[w.heap.size]? = some (.cells #[.int .i64 kap, .bool false, .slice (some ⟨gb, 0, none⟩) b.length bc, .slice (some ⟨gs, 0, none⟩) s.length sc, .slice (some ⟨gr, 0, none⟩) r.length rc] 26) := by rw [hV]; exact ((below3 (w.alloc (.cells #[.int .i64 kap, .bool false, .slice (some ⟨gb, 0, none⟩) b.length bc, .slice (some ⟨gs, 0, none⟩) s.length sc, .slice (some ⟨gr, 0, none⟩) r.length rc] 26)) (.cells #[.int .i64 t1, .int .i64 t2, .int .i64 tv] 28) (.cells #[.int .i64 0, .bool false, .slice none 0 0, .slice none 0 0, .slice none 0 0] 26) (.cells #[.int .i64 t1, .int .i64 t2, .int .i64 tv] 28)).block w.heap.size (by simp)).trans (heap_new w _)
  have k2 : V.heap[w.heap.size + 1 + 1]? = some (.cells #[.int .i64 0, .bool false, .slice none 0 0, .slice none 0 0, .slice none 0 0] 26) := by
    have h := heap_new ((w.alloc (.cells #[.int .i64 kap, .bool false, .slice (some ⟨gb, 0, none⟩) b.length bc, .slice (some ⟨gs, 0, none⟩) s.length sc, .slice (some ⟨gr, 0, none⟩) r.length rc] 26)).alloc (.cells #[.int .i64 t1, .int .i64 t2, .int .i64 tv] 28)) (.cells #[.int .i64 0, .bool false, .slice none 0 0, .slice none 0 0, .slice none 0 0] 26)
    have e : ((w.alloc (.cells #[.int .i64 kap, .bool false, .slice (some ⟨gb, 0, none⟩) b.length bc, .slice (some ⟨gs, 0, none⟩) s.length sc, .slice (some ⟨gr, 0, none⟩) r.length rc] 26)).alloc (.cells #[.int .i64 t1, .int .i64 t2, .int .i64 tv] 28)).heap.size = w.heap.size + 1 + 1 := by simp
    rw [e] at h
    rw [hV]; exact ((below1 (((w.alloc (.cells #[.int .i64 kap, .bool false, .slice (some ⟨gb, 0, none⟩) b.length bc, .slice (some ⟨gs, 0, none⟩) s.length sc, .slice (some ⟨gr, 0, none⟩) r.length rc] 26)).alloc (.cells #[.int .i64 t1, .int .i64 t2, .int .i64 tv] 28)).alloc (.cells #[.int .i64 0, .bool false, .slice none 0 0, .slice none 0 0, .slice none 0 0] 26)) (.cells #[.int .i64 t1, .int .i64 t2, .int .i64 tv] 28)).block (w.heap.size + 1 + 1) (by simp)).trans h
  have A4 : BoxF5 V w.heap.size (.int .i64 kap) (.bool false) (.slice (some ⟨gb, 0, none⟩) b.length bc) (.slice (some ⟨gs, 0, none⟩) s.length sc) (.slice (some ⟨gr, 0, none⟩) r.length rc) := by
    rw [hV]; exact (BoxF5.new w _ _ _ _ _ _).later (below3 _ _ _ _)
  have R4 : BoxF5 V (w.heap.size + 1 + 1) (.int .i64 0) (.bool false) (.slice none 0 0) (.slice none 0 0) (.slice none 0 0) := by
    have h := (BoxF5.new ((w.alloc (.cells #[.int .i64 kap, .bool false, .slice (some ⟨gb, 0, none⟩) b.length bc, .slice (some ⟨gs, 0, none⟩) s.length sc, .slice (some ⟨gr, 0, none⟩) r.length rc] 26)).alloc (.cells #[.int .i64 t1, .int .i64 t2, .int .i64 tv] 28)) (.int .i64 0) (.bool false) (.slice none 0 0) (.slice none 0 0) (.slice none 0 0) 26).later (below1 _ (.cells #[.int .i64 t1, .int .i64 t2, .int .i64 tv] 28))
    rw [hV]; simpa using h
  have HZ : Hid (TimersIn V.heap.size V (some ⟨w.heap.size + 1 + 1 + 1, 0, none⟩) [(t1, t2, tv)]) := by
    rw [hV]; exact timers_new _ _ _ _ (by simp)
  have HO : Hid (OwnV lo V (.slice (some ⟨gs, 0, none⟩) s.length sc) s) := (hs.later hBV).2
  have HV : Hid (V = ((((w.alloc (.cells #[.int .i64 kap, .bool false, .slice (some ⟨gb, 0, none⟩) b.length bc, .slice (some ⟨gs, 0, none⟩) s.length sc, .slice (some ⟨gr, 0, none⟩) r.length rc] 26)).alloc (.cells #[.int .i64 t1, .int .i64 t2, .int .i64 tv] 28)).alloc (.cells #[.int .i64 0, .bool false, .slice none 0 0, .slice none 0 0, .slice none 0 0] 26)).alloc (.cells #[.int .i64 t1, .int .i64 t2, .int .i64 tv] 28))) := hV
  have HX : Hid (SI lo w.heap.size V gb bc b ∧ SC lo w.heap.size V gs sc s ∧ SC lo w.heap.size V gr rc r ∧ gb ≠ gs ∧ gb ≠ gr ∧ gs ≠ gr) := ⟨hb.later hBV, hs.later hBV, hr.later hBV, hb.apart hs, hb.apart hr, hgg⟩
  have HK : Hid (V.heap[w.heap.size]? = some (.cells #[.int .i64 kap, .bool false, .slice (some ⟨gb, 0, none⟩) b.length bc, .slice (some ⟨gs, 0, none⟩) s.length sc, .slice (some ⟨gr, 0, none⟩) r.length rc] 26) ∧ V.heap[w.heap.size + 1 + 1]? = some (.cells #[.int .i64 0, .bool false, .slice none 0 0, .slice none 0 0, .slice none 0 0] 26)) := ⟨k0, k2⟩
  have HSV : Hid (V.heap.size = w.heap.size + 1 + 1 + 1 + 1) := hSV
  have HBX : Hid (Below w.heap.size w V) := hBV
  have HGG : Hid (gs ≠ gr) := hgg
  clear hV hb hs hr hgg k0 k2 hSV hBV
  go_enter Try.func22, Try.ntmps22
  go_wp2_with (at_builtin; rw [← HV.out]; refine wpList_appWat V rfl (.tmp 57) (.tmp 59) rfl lo (.slice (some ⟨gs, 0, none⟩) s.length sc) s rfl HO.out (by rw [HSV.out]; omega) ⟨w.heap.size + 1 + 1 + 1, 0, none⟩ [(t1, t2, tv)] 1 1 rfl rfl _ HZ.out (by simp; omega) ?_; intro v5 w5 hO5 hB5 hg5 hn5; obtain ⟨g5, c5, rfl, hF5⟩ := OwnV.strong hO5 (own_more hO5 (by simp)); have W5 : Hid (g5 = gs ∨ V.heap.size ≤ g5) := (hn5 g5 rfl).imp (fun e => (Option.some.inj e).symm) (fun e => e); have g1 : gs < w.heap.size := HX.out.2.1.1; have ow : (Value.slice (some ⟨gs, 0, none⟩) s.length sc).ownBlock = some gs := rfl; have hs0 : ∀ k, k < V.heap.size → k ≠ gs → SameAt k V w5 := (fun k h1 h2 => hg5.block k h1 (by rw [ow]; intro e; exact h2 (Option.some.inj e))); have h0' := hs0 w.heap.size (by rw [HSV.out]; omega) (by omega); have h2' := hs0 (w.heap.size + 1 + 1) (by rw [HSV.out]; omega) (by omega); have A5 := A4.same h0' hg5.size; have R5 := R4.same h2' hg5.size; have z5 := hg5.size; rw [HSV.out] at z5; have K5 : Hid (w5.heap[w.heap.size]? = some (.cells #[.int .i64 kap, .bool false, .slice (some ⟨gb, 0, none⟩) b.length bc, .slice (some ⟨gs, 0, none⟩) s.length sc, .slice (some ⟨gr, 0, none⟩) r.length rc] 26) ∧ w5.heap[w.heap.size + 1 + 1]? = some (.cells #[.int .i64 0, .bool false, .slice none 0 0, .slice none 0 0, .slice none 0 0] 26) ∧ w.heap.size + 1 + 1 + 1 + 1 ≤ w5.heap.size) := ⟨h0'.trans HK.out.1, h2'.trans HK.out.2, z5⟩; have F5 : Hid (SC lo w5.heap.size w5 g5 c5 (s ++ [(t1, t2, tv)])) := hF5; have X5 : Hid (SI lo w.heap.size w5 gb bc b ∧ SC lo w.heap.size w5 gr rc r) := ⟨HX.out.1.keepAt (hs0 gb (owns_lt HX.out.1.2).2 HX.out.2.2.2.1), HX.out.2.2.1.keepAt (hs0 gr (owns_lt HX.out.2.2.1.2).2 HX.out.2.2.2.2.2.symm)⟩; have B5 : Hid (Below lo w w5) := (HBX.out.mono hlo).trans hB5; clear hO5 hB5 hn5 hF5 hg5 hs0 h0' h2' z5 A4 R4 HV HZ HO; obtain ⟨⟨_, a0, a1, a2, a3, a4⟩, af0, af1, af2, af3, af4⟩ := id A5; obtain ⟨⟨_, r0, r1, r2, r3, r4⟩, rf0, rf1, rf2, rf3, rf4⟩ := id R5)
  refine bodyPost_ret (v := .tuple #[.agg #[.int .i64 kap, .bool false, .slice (some ⟨gb, 0, none⟩) b.length bc, .slice (some ⟨g5, 0, none⟩) (s.length + 1) c5, .slice (some ⟨gr, 0, none⟩) r.length rc], .slice none 0 0, .int .i64 1]) (by simp [results, Try.results22, go_sem, r0, r1, r2, r3, r4]) rfl ?_
  have e1 : s.length + 1 = (s ++ [(t1, t2, tv)]).length := by simp
  have z5 := K5.out.2.2
  have x1 := X5.out.1.1
  have x2 := X5.out.2.1
  rw [e1]
  exact ansV_box B5.out (X5.out.1.wide (Nat.le_refl _) (by omega)) F5.out (X5.out.2.wide (Nat.le_refl _) (by omega)) (.inr (.inr (some_apart (by have h := HGG.out; have h5 := W5.out; rw [HSV.out] at h5; omega)))) hlo (by omega) ⟨by omega, F5.out.notBox K5.out.1 (by decide), by omega⟩ ⟨by omega, F5.out.notBox K5.out.2.1 (by decide), by omega⟩ _ _ _ _ _ _
end Go.Proofs.Ytdfmmidokfcjfaa.Old
