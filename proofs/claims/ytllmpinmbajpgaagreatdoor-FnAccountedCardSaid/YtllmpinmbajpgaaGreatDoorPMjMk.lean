
/- What a value means, as the specification says it: l11Mean. No conditions but those written. How far emitsOf has come, plainly: its bounds. No conditions but those written. Hands: rows of ints of their own behind one row of heads. No conditions but those written. What is emitted, as the program says it: emitsAt; how emitsOf's memory lies. No conditions but those written. -/
import Derived.Test.YtllmpinmbajpgaaGreatDoorPCvaMi
import Derived.Test.YtllmpinmbajpgaaGreatDoorPRwOs
import Derived.Test.YtllmpinmbajpgaaGreatDoorPFoRz
import Derived.Test.YtllmpinmbajpgaaGreatDoorPWxRd
namespace Go.Proofs.YtllmpinmbajpgaaGreatDoor
section
open Go.RowKit

/-- How a graph is read. -/
def NV (n : Nat) (W : World) (ao : Option Addr) (gs : List PNode) : Prop := ∀ k, k < gs.length → ∃ b off nxo nxc, ao = some ⟨b, off, none⟩ ∧ b < n ∧ W.cell? ⟨b, off + k * 6 + 5, none⟩ = some (.slice nxo (nxP gs k).length nxc) ∧ kI.In n W nxo (nxP gs k) ∧ W.cell? ⟨b, off + k * 6 + 1, none⟩ = some (.int .i64 (el gs k).2.1) ∧ W.cell? ⟨b, off + k * 6 + 2, none⟩ = some (.int .i64 (el gs k).2.2.1) ∧ W.cell? ⟨b, off + k * 6 + 3, none⟩ = some (.int .i64 (el gs k).2.2.2.1)
theorem nv_of {n : Nat} {W : World} {ao : Option Addr} {ts : List LNode} (hz : DIn dNode n W ao ts) : NV n W ao (ts.map valNode) := fun k hk => by
 rw [val_len] at hk;obtain ⟨b, off, e, hb, hc⟩ := hNode_at hz.1 hk;have d := hc k hk;have hin := hz.2 k hk;have hev : nxP (ts.map valNode) k = (el ts k).2.2.2.2.2.2.2 := by rw [nxP, el_val hk]; rfl
 rw [hev, el_val hk];exact ⟨b, off, _, _, e, hb, d.2.2.2.2.2, hin, d.2.1, d.2.2.1, d.2.2.2.1⟩
theorem NV.below {n : Nat} {W W' : World} {ao : Option Addr} {gs : List PNode} (h : NV n W ao gs) (hb : Below n W W') : NV n W' ao gs := fun k hk => by
 obtain ⟨b, off, nxo, nxc, e, hbn, c5, hi, c1, c2, c3⟩ := h k hk;refine ⟨b, off, nxo, nxc, e, hbn, (hb.cell (p := ⟨b, _, none⟩) hbn).trans c5, ?_, (hb.cell (p := ⟨b, _, none⟩) hbn).trans c1, (hb.cell (p := ⟨b, _, none⟩) hbn).trans c2, (hb.cell (p := ⟨b, _, none⟩) hbn).trans c3⟩
 rcases hi with h | ⟨b', o', e', hb', hc'⟩
 ·exact .inl h
 ·exact .inr ⟨b', o', e', hb', fun j hj i hi => (hb.cell (p := ⟨b', _, none⟩) hb').trans (hc' j hj i hi)⟩
/-- A row grew: it stays in its block, or lies in a new one. -/
structure GrM (w w' : World) (v v' : Value) : Prop where
 g : w.grownBy w' v.ownBlock
 n : ∀ b, v'.ownBlock = some b → v.ownBlock = some b ∨ w.heap.size ≤ b
theorem GrM.refl (w : World) (v : Value) : GrM w w v v := ⟨World.grownBy.refl _ _, fun _ h => .inl h⟩
theorem GrM.trans {w w1 w2 : World} {v v1 v2 : Value} (h1 : GrM w w1 v v1) (h2 : GrM w1 w2 v1 v2) : GrM w w2 v v2 := by
 refine ⟨⟨h2.g.os.trans h1.g.os, h2.g.tape.trans h1.g.tape, h2.g.output.trans h1.g.output, Nat.le_trans h1.g.size h2.g.size, fun b hb hn => ?_⟩, fun b hb => ?_⟩
 ·have e1 := h1.g.block b hb hn;refine (h2.g.block b (Nat.lt_of_lt_of_le hb h1.g.size) fun h => ?_).trans e1
  rcases h1.n b h.symm with h | h
  ·exact hn h.symm
  ·omega
 ·rcases h2.n b hb with h | h
  ·exact h1.n b h
  ·exact .inr (Nat.le_trans h1.g.size h)
theorem GrM.of_below {w w' : World} (h : Below w.heap.size w w') (v : Value) : GrM w w' v v := ⟨⟨h.os, h.tape, h.output, h.size, fun b hb _ => h.block b hb⟩, fun _ h => .inl h⟩
theorem own_ltG {α : Type} {K : Kind α} {lo : Nat} {W : World} {v : Value} {xs : List α} (h : K.Own lo W v xs) {g : Nat} (hg : v.ownBlock = some g) : g < W.heap.size := by
 rcases h.2 with ⟨e, _⟩ | ⟨g', cap', cur, e, hb, hh, r⟩
 ·rw [e] at hg; simp [Value.ownBlock] at hg
 ·rw [e] at hg
  simp [Value.ownBlock] at hg
  subst hg;exact (Array.getElem?_eq_some_iff.1 hh).1
theorem own_sliceG {α : Type} {K : Kind α} {lo : Nat} {W : World} {v : Value} {xs : List α} (h : K.Own lo W v xs) : ∃ go qc, v = .slice go xs.length qc := by
 obtain ⟨go, qc, e, _⟩ := h.fresh;exact ⟨go, qc, e⟩
/-- What comes of one value behind its node. -/
def thenM (gs : List PNode) (k : Nat) (x : Int) : List (Int × Int) := if (nxP gs k).length = 0 then [((k : Int), x)] else (nxP gs k).flatMap fun y => meanG gs y.toNat x
theorem meanG_then {gs : List PNode} {R : List Int} (h : Ordd gs R) (hE : EdgesIn gs) {k : Nat} (hk : k < gs.length) (v : Int) : meanG gs k v = (outM gs k v).flatMap (thenM gs k) := meanG_eq h hE hk v
theorem flat_take {α β : Type} [Inhabited α] (f : α → List β) {l : List α} {m : Nat} (hm : m < l.length) : (l.take (m + 1)).flatMap f = (l.take m).flatMap f ++ f (el l m) := by
 rw [List.take_add_one, List.flatMap_append, List.getElem?_eq_getElem hm, el_at hm]
 simp
theorem flat_le {α β : Type} (f : α → List β) (l : List α) (m : Nat) : ((l.take m).flatMap f).length ≤ (l.flatMap f).length := by
 conv => rhs; rw [← List.take_append_drop m l, List.flatMap_append, List.length_append]
 omega
theorem Tr.over {out m m2 r : List (Int × Int)} (h : Tr out m r) (hr : 400 < r.length) (hm : m.length ≤ m2.length) : Tr out m2 r := .inr ⟨hr, by have := h.len; omega⟩
/-- What l11Mean answers. -/
def AnsM (lo : Nat) (w : World) (val : Value) (out m : List (Int × Int)) (e : Ending) (w' : World) : Prop := ∃ (v' : Value) (r : List (Int × Int)), e = .returned v' ∧ Hid (kE.Own lo w' v' r) ∧ Hid (Tr out m r) ∧ r.length ≤ 401 ∧ Hid (GrM w w' val v')
def MeanC (lo : Nat) (ao : Option Addr) (cap : Nat) (gs : List PNode) (R : List Int) (n : Nat) : Prop := ∀ (k : Nat) (v : Int) (w : World) (val : Value) (out : List (Int × Int)), k < gs.length → rk R k ≤ n → valB v = true → Hid (kE.Own lo w val out) → out.length ≤ 401 → Hid (NV lo w ao gs) → lo ≤ w.heap.size →
  Calls Tryz.prog 37 #[.slice ao gs.length cap, .int .i64 (k : Int), .int .i64 v, val] w (AnsM lo w val out (meanG gs k v))
set_option maxHeartbeats 4000000 in
theorem l11Mean_step (lo : Nat) (ao : Option Addr) (cap : Nat) (gs : List PNode) (R : List Int) (n : Nat) (hR : Ordd gs R) (hE : EdgesIn gs) (hS : GoodSts gs) (ih : MeanC lo ao cap gs R n) : MeanC lo ao cap gs R (n + 1) := by
 intro k v w val out hk hrk hv hO hl hV hlo;have hgl : gs.length ≤ 10 := hE.many;have hki : (k : Int) < (gs.length : Int) := by omega
 obtain ⟨b, off, nxo, nxc, rfl, hb, c5, hI, c1, c2, c3⟩ := hV.out k hk;have HI := hid hI;have HOUT := hid (l11Out_is (el gs k).2.1 (el gs k).2.2.1 (el gs k).2.2.2.1 v w (hS k hk) hv);rw [← outM_S] at HOUT;have HVB := hid (outM_val (hS k hk) hv);have HRN := hid (hR.rk_next hE hk);have HM := hid (meanG_then hR hE hk v);have HTH : Hid (∀ x, thenM gs k x = if (nxP gs k).length = 0 then [((k : Int), x)] else (nxP gs k).flatMap fun y => meanG gs y.toNat x) := fun x => rfl
 obtain ⟨A, hA⟩ : ∃ A, A = meanG gs k v := ⟨_, rfl⟩;rw [← hA] at HM ⊢;clear hA;have hnl : (nxP gs k).length ≤ 10 := hE.few k hk
 generalize hnx : nxP gs k = nx at c5 HI HRN HTH hnl
 generalize hq : outM gs k v = q at HOUT HVB HM
 have hql : q.length ≤ 3 := by
  have h1 := outM_len (hS k hk) v;have h2 := (factI_rng (el gs k).2.1 (el gs k).2.2.1 (el gs k).2.2.2.1).2;rw [hq] at h1
  omega
 generalize (el gs k).2.1 = kd at c1 HOUT
 generalize (el gs k).2.2.1 = sa at c2 HOUT
 generalize (el gs k).2.2.2.1 = sb at c3 HOUT
 have HV := hV;clear hnx hq hI hv hV;go_enter Tryz.func37, Tryz.ntmps37;go_wp2_with fail;refine HOUT.out.mono ?_;rintro e w1 ⟨⟨qo, qc, rfl, hno, hF⟩, hb1⟩;have FQ := hid hF;have O1 := hid (hO.out.below hb1);have HB1 : Hid (Below w.heap.size w w1) := hb1;have hs1 := hb1.size;clear hF hb1 HOUT;dsimp only;go_wp2
 go_loopw [3, 21] (fun u j wr => ∃ (m : Nat) (r : List (Int × Int)), j = .int .i64 (m : Int) ∧ m ≤ q.length ∧ Hid (kE.Own lo wr u r) ∧ Hid (Tr out ((q.take m).flatMap (thenM gs k)) r) ∧ r.length ≤ 401 ∧ Hid (GrM w1 wr val u)) (fun _ j _ => q.length - (intOf j).toNat)
 case atStart => exact ⟨0, out, rfl, Nat.zero_le _, O1, Tr.refl _, hl, GrM.refl _ _⟩
 case round =>
  rename World => wo
  obtain ⟨m, r, rfl, hm, hO2, hT, hr, hG⟩ := hrel;have hBl : Below lo w wo := (HB1.out.mono hlo).trans (O1.out.belowG hG.out.g (by omega));obtain ⟨go, gc, rfl⟩ := own_sliceG hO2.out
  by_cases hmq : m < q.length
  ·have HQ : Hid (kI.In wo.heap.size wo qo q) := in_grown hG.out.g (FQ.out.in) (fun h0 b' off' e h => by
    have h1 := own_ltG hO.out h
    rcases FQ.out with h2 | ⟨g5, e5, _, ho5⟩
    ·rw [h2] at h0; simp at h0
    ·rw [e] at e5
     simp at e5
     have h3 := (owns_lt ho5).1
     omega)
   obtain ⟨bq, oq, rfl, hbq, hcq⟩ := ints_at HQ.out hmq;have cm := hcq m hmq;have HX := hid (HVB.out _ (el_mem hmq));have HFT := hid (flat_take (thenM gs k) hmq);rw [HTH.out] at HFT
   generalize el q m = x at cm HX HFT
   have hmi : (m : Int) < (q.length : Int) := by omega
   have d5 := (hBl.cell (p := ⟨b, off + k * 6 + 5, none⟩) hb).trans c5;have HIr := hid ((HV.out.below hBl));clear hcq
   by_cases h4 : 400 < r.length
   ·have HTT := hid (hT.out.over h4 (flat_le (thenM gs k) q m));have h4' : (400 : Int) < (r.length : Int) := by omega
    clear h4;go_wp2;go_ret;exact ⟨_, r, rfl, hO2, (by rw [HM.out]; exact HTT.out), hr, (GrM.of_below HB1.out _).trans hG.out⟩
   ·have h4' : ¬ (400 : Int) < (r.length : Int) := by omega
    by_cases h0 : nx.length = 0
    ·rw [if_pos h0] at HFT;have hr4 : r.length + 1 ≤ 401 := by omega
     clear h4;obtain ⟨V, hVV⟩ : ∃ V, V = wo.alloc (.cells #[.int .i64 (k : Int), .int .i64 x] 55) := ⟨_, rfl⟩;have HBV : Below wo.heap.size wo V := by rw [hVV]; exact below1 _ _
     have OV := hid (hO2.out.below HBV);have HN : Hid (kE.In V.heap.size V (some ⟨wo.heap.size, 0, none⟩) [((k : Int), x)]) := emits_mk (by rw [hVV]; simp) (by rw [hVV]; simp) (by rw [hVV]; simp);have HLV : Hid (lo ≤ V.heap.size) := Nat.le_trans (Nat.le_trans hlo hs1) (Nat.le_trans hG.out.g.size HBV.size);have HBVh := hid HBV;have HVV := hid hVV;clear hVV HBV;go_wp2_with (at_builtin; rw [← HVV.out]; refine Kind.appN kE_ok V rfl (.tmp 36) (.tmp 40) rfl lo (.slice go r.length gc) r rfl OV.out HLV.out (some ⟨wo.heap.size, 0, none⟩) [((k : Int), x)] 1 1 rfl rfl (by simp) _ HN.out (by simp; omega) ?_; intro v2 w2 hOa hBa hGa hna; have OA := hid hOa; have GA : Hid (GrM w1 w2 val v2) := hG.out.trans ((GrM.of_below HBVh.out _).trans ⟨hGa, hna⟩); obtain ⟨ga, ca, rfl⟩ := own_sliceG hOa; have e5 := (hBa.cell (p := ⟨b, off + k * 6 + 5, none⟩) hb).trans (((HBVh.out.mono (by have := hG.out.g.size; omega)).cell (p := ⟨b, off + k * 6 + 5, none⟩) hb).trans d5); clear hOa hBa hGa hna)
     go_loopw [3, 48] (fun u2 j2 wr2 => u2 = .slice ga (r ++ [((k : Int), x)]).length ca ∧ j2 = .int .i64 0 ∧ wr2 = w2) (fun _ _ _ => 0)
     case atStart => exact ⟨by simp, rfl, rfl⟩
     case round =>
      obtain ⟨rfl, rfl, rfl⟩ := hrel;go_wp2;go_roundw
      case rel => exact ⟨m + 1, r ++ [((k : Int), x)], by go_num, by omega, OA, (by rw [HFT.out]; exact hT.out.trans (.inl rfl)), by simp; omega, GA⟩
      case measure => simp [intOf]; omega
    ·rw [if_neg h0] at HFT;have hr4 : r.length ≤ 400 := by omega
     have HIN : Hid (kI.In lo wo nxo nx) := by
      rcases HI.out with h | ⟨b', o', e', hb', hc'⟩
      ·exact .inl h
      ·exact .inr ⟨b', o', e', hb', fun j hj i hi => (hBl.cell (p := ⟨b', _, none⟩) hb').trans (hc' j hj i hi)⟩
     have hslo : lo ≤ wo.heap.size := Nat.le_trans hlo (Nat.le_trans hs1 hG.out.g.size);clear h4;go_wp2
     go_loopw [3, 48] (fun u2 j2 wr2 => ∃ (m2 : Nat) (r2 : List (Int × Int)), j2 = .int .i64 (m2 : Int) ∧ m2 ≤ nx.length ∧ Hid (kE.Own lo wr2 u2 r2) ∧ Hid (Tr r ((nx.take m2).flatMap fun y => meanG gs y.toNat x) r2) ∧ r2.length ≤ 401 ∧ Hid (GrM wo wr2 (.slice go r.length gc) u2)) (fun _ j2 _ => nx.length - (intOf j2).toNat)
     case atStart => exact ⟨0, r, rfl, Nat.zero_le _, hO2, Tr.refl _, hr, GrM.refl _ _⟩
     case round =>
      obtain ⟨m2, r2, rfl, hm2, hO3, hT3, hr3, hG3⟩ := hrel;have hB3 : Below lo wo wr := hO2.out.belowG hG3.out.g hslo
      by_cases hmn : m2 < nx.length
      ·obtain ⟨nb, noff, rfl, hnb, hnc⟩ := ints_at HIN.out hmn;have cn := (hB3.cell (p := ⟨nb, noff + m2, none⟩) hnb).trans (hnc m2 hmn);have HFM := hid (flat_take (fun y => meanG gs y.toNat x) hmn);obtain ⟨j, hj, hyj, hrj⟩ := HRN.out (el nx m2) (el_mem hmn);rw [hyj] at cn HFM;rw [Int.toNat_natCast] at HFM;have hmn' : (m2 : Int) < (nx.length : Int) := by omega
       have HC := hid (ih j x wr _ r2 hj (by omega) HX.out hO3 hr3 (HIr.out.below hB3) (Nat.le_trans hslo hB3.size));clear hnc hyj;go_wp2_with fail;refine HC.out.mono ?_;rintro e w5 ⟨v5, r5, rfl, hO5, hT5, hr5, hG5⟩;dsimp only;go_wp2;go_roundw
       case rel => exact ⟨m2 + 1, r5, by go_num, by omega, hO5, (by rw [HFM.out]; exact hT3.out.trans hT5.out), hr5, hG3.out.trans hG5.out⟩
       case measure => simp [intOf]; omega
      ·obtain rfl : m2 = nx.length := by omega
       rw [List.take_length] at hT3;clear hmn;go_wp2;go_roundw
       case rel => exact ⟨m + 1, r2, by go_num, by omega, hO3, (by rw [HFT.out]; exact hT.out.trans hT3.out), hr3, hG.out.trans hG3.out⟩
       case measure => simp [intOf]; omega
  ·obtain rfl : m = q.length := by omega
   have HTT := hT;rw [List.take_length, ← HM.out] at HTT;clear hmq;go_wp2;go_ret;exact ⟨_, r, rfl, hO2, HTT.out, hr, (GrM.of_below HB1.out _).trans hG.out⟩
theorem l11Mean_all (lo : Nat) (ao : Option Addr) (cap : Nat) (gs : List PNode) (R : List Int) (hR : Ordd gs R) (hE : EdgesIn gs) (hS : GoodSts gs) : ∀ n, MeanC lo ao cap gs R n
 | 0 => fun k v w val out hk hrk _ _ _ _ _ => by have := hR.rk_pos hk; omega
 | n + 1 => l11Mean_step lo ao cap gs R n hR hE hS (l11Mean_all lo ao cap gs R hR hE hS n)
/-- What a value means, from nothing on. -/
theorem l11Mean_is (ao : Option Addr) (cap : Nat) (ts : List LNode) (R : List Int) (hR : Ordd (ts.map valNode) R) (hE : EdgesIn (ts.map valNode)) (hS : GoodSts (ts.map valNode)) (k : Nat) (v : Int) (w : World) (hk : k < ts.length) (hv : valB v = true) (hz : DIn dNode w.heap.size w ao ts) :
  Calls Tryz.prog 37 #[.slice ao ts.length cap, .int .i64 (k : Int), .int .i64 v, .slice none 0 0] w fun e w' => ∃ go gc r, e = .returned (.slice go r.length gc) ∧ (go = none → gc = 0) ∧ kE.Fresh w.heap.size w'.heap.size w' go gc r ∧ Tr [] (meanG (ts.map valNode) k v) r ∧ r.length ≤ 401 ∧ Below w.heap.size w w' := by
 have h := l11Mean_all w.heap.size ao cap (ts.map valNode) R hR hE hS _ k v w (.slice none 0 0) [] (by rw [val_len]; exact hk) (Nat.le_refl _) hv (Kind.Own.nil _ _ _) (by simp) (nv_of hz) (Nat.le_refl _);rw [val_len] at h;refine h.mono ?_;rintro e w' ⟨v', r, rfl, hO, hT, hl, hG⟩;obtain ⟨go, gc, rfl, hno, hF⟩ := hO.out.fresh;exact ⟨go, gc, r, rfl, hno, hF, hT.out, hl, ⟨hG.out.g.os, hG.out.g.tape, hG.out.g.output, hG.out.g.size, fun b hb => hG.out.g.block b hb (by simp [Value.ownBlock])⟩⟩
end
section
open Go.RowKit
section
variable {gs : List PNode} {R : List Int}

/-- The node k is at work, and i of its values have passed. -/
def sT (gs : List PNode) (s : ES) (k i : Nat) : ES := ((el s.1 k).take i).foldl (stepV gs k) s
theorem sT_zero (s : ES) (k : Nat) : sT gs s k 0 = s := by unfold sT; simp
theorem sT_all (s : ES) (k : Nat) : sT gs s k (el s.1 k).length = stepN gs s k := by unfold sT stepN; rw [List.take_length]
theorem sT_succ (s : ES) (k : Nat) {i : Nat} (hi : i < (el s.1 k).length) : sT gs s k (i + 1) = stepV gs k (sT gs s k i) (el (el s.1 k) i) := by
 unfold sT
 rw [take_succ_el hi, List.foldl_append]; rfl
theorem sT_len (s : ES) (k i : Nat) : (sT gs s k i).1.length = s.1.length := fold_len gs k _ _
theorem emitAt_succ (s : ES) {t k : Nat} (ht : t < R.length) (ek : el R t = (k : Int)) : emitAt gs (R.take (t + 1)) s = stepN gs (emitAt gs (R.take t) s) k := by
 rw [take_succ_el ht, ek, emitAt_app, emitAt_cons, Int.toNat_natCast]; rfl
theorem fold_self {n k : Nat} (hp : Places n (nxP gs k)) (hk : (k : Int) ∉ nxP gs k) : ∀ (vs : List Int) (s : ES), s.1.length = n → el (vs.foldl (stepV gs k) s).1 k = el s.1 k
 | [], _, _ => rfl
 | v :: r, s, hl => by
  rw [List.foldl_cons, fold_self hp hk r _ (by rw [stepV_len, hl])];exact intoAll_other _ _ _ k (by rw [hl]; exact hp) hk
/-- All that came in are values. -/
def AllV (I : List (List Int)) : Prop := ∀ j, ∀ x ∈ el I j, valB x = true
theorem allV_into {out : List Int} (ho : ∀ x ∈ out, valB x = true) : ∀ (nx : List Int) (I : List (List Int)), Places I.length nx → AllV I → AllV (intoAll out nx I)
 | [], _, _, h => h
 | y :: r, I, hp, h => by
  obtain ⟨j, hj, rfl⟩ := hp y (by simp);rw [intoAll, Int.toNat_natCast];refine allV_into ho r _ (fun z hz => by rw [List.length_set]; exact hp z (by simp [hz])) fun i x hx => ?_
  rw [el_setG hj] at hx
  split at hx
  ·rcases List.mem_append.1 hx with h1 | h1
   ·exact h j x h1
   ·exact ho x h1
  ·exact h i x hx
theorem allV_fold {n k : Nat} (hg : goodSt (el gs k).2.1 (el gs k).2.2.1 (el gs k).2.2.2.1 = true) (hp : Places n (nxP gs k)) : ∀ (vs : List Int) (s : ES), s.1.length = n → (∀ v ∈ vs, valB v = true) → AllV s.1 → AllV (vs.foldl (stepV gs k) s).1
 | [], _, _, _, h => h
 | v :: r, s, hl, hv, h => by
  rw [List.foldl_cons];exact allV_fold hg hp r _ (by rw [stepV_len, hl]) (fun x hx => hv x (by simp [hx])) (allV_into (outM_val hg (hv v (by simp))) _ _ (by rw [hl]; exact hp) h)
theorem allV_at (h : Ordd gs R) (hE : EdgesIn gs) (hS : GoodSts gs) {s : ES} (hl : s.1.length = gs.length) (hV : AllV s.1) : ∀ t, t ≤ R.length → AllV (emitAt gs (R.take t) s).1
 | 0, _ => by rw [List.take_zero]; exact hV
 | t + 1, ht => by
  have hlt : t < R.length := by omega
  obtain ⟨k, hk, ek⟩ := h.rng _ (el_mem hlt);rw [emitAt_succ s hlt ek];have ih := allV_at h hE hS hl hV t (by omega);exact allV_fold (hS k hk) (hE.rng k hk) _ _ (by rw [emitAt_len, hl]) (fun v hv => ih k v hv) ih
theorem allV_start {n k : Nat} {v : Int} (hv : valB v = true) : AllV (emit0 n k v).1 := fun j x hx => by
 unfold emit0 at hx
 dsimp only at hx
 by_cases hk : k < (List.replicate n ([] : List Int)).length
 ·rw [el_setG hk] at hx
  split at hx
  ·simp at hx; rw [hx]; exact hv
  ·have : el (List.replicate n ([] : List Int)) j = [] := by simp only [el, List.getElem?_replicate]; split <;> rfl
   rw [this] at hx; simp at hx
 ·rw [List.set_eq_of_length_le (by omega)] at hx;have : el (List.replicate n ([] : List Int)) j = [] := by simp only [el, List.getElem?_replicate]; split <;> rfl
  rw [this] at hx; simp at hx
/-- Where emitsOf stands: t nodes of the order are done, k is at work, i of its values have passed. -/
structure At (gs : List PNode) (R : List Int) (s0 : ES) (t k i : Nat) (s : ES) : Prop where
 len : s.1.length = gs.length
 self : (k : Int) ∉ nxP gs k
 row : el s.1 k = el (emitAt gs (R.take t) s0).1 k
 val : AllV s.1
 em : s.2.length ≤ 100000
 own : (el s.1 k).length ≤ 100000
 wide : ∀ j : Nat, (j : Int) ∈ nxP gs k → (el s.1 j).length ≤ 100000
theorem wRows_row {rest : List Int} {I : List (List Int)} {φ : Nat → Int → Int} (hφ : ∀ a ∈ rest, ∀ x, 1 ≤ φ a.toNat x) {j : Nat} (hj : (j : Int) ∈ rest) : ((el I j).length : Int) ≤ wRows φ I rest := by
 have h1 : sumI (φ j) (el I j) ≤ wRows φ I rest := by
  have := sumI_mem (f := fun a : Int => sumI (φ a.toNat) (el I a.toNat)) hj (fun y hy => sumI_nn fun x _ => by have := hφ y hy x; omega);rw [Int.toNat_natCast] at this;exact this
 have h2 : ((el I j).length : Int) ≤ sumI (φ j) (el I j) := sumI_ge_len fun x _ => by have := hφ _ hj x; rw [Int.toNat_natCast] at this; exact this
 omega
theorem at_is (h : Ordd gs R) (hE : EdgesIn gs) (hS : GoodSts gs) {k0 : Nat} {v0 : Int} (hk0 : k0 < gs.length) (hv : valB v0 = true) (hw : wdP gs R k0 ≤ 100000) {t k : Nat} (ht : t < R.length) (ek : el R t = (k : Int)) (hk : k < gs.length) {i : Nat} :
  At gs R (emit0 gs.length k0 v0) t k i (sT gs (emitAt gs (R.take t) (emit0 gs.length k0 v0)) k i) := by
 have hl0 : (emit0 gs.length k0 v0).1.length = gs.length := emit0_len _ _ _;have hlt : (emitAt gs (R.take t) (emit0 gs.length k0 v0)).1.length = gs.length := by rw [emitAt_len, hl0]
 have hself : (k : Int) ∉ nxP gs k := by
  have := h.self _ (h.has hk)
  rwa [Int.toNat_natCast] at this
 have hV := allV_at h hE hS hl0 (allV_start hv) t (by omega);have hp := part_w h hE (wdP_falls h hE hS) (emit0 gs.length k0 v0) hl0 t (by omega);rw [start_w h hk0] at hp;have e0 : sumI (fun _ => 1) (emit0 gs.length k0 v0).2 = 0 := rfl;have hd : R.drop t = (k : Int) :: R.drop (t + 1) := by rw [← ek, el_at ht, List.getElem_cons_drop]
 have e : wRows (fun k _ => wdP gs R k) (emitAt gs (R.take t) (emit0 gs.length k0 v0)).1 ((k : Int) :: R.drop (t + 1)) = sumI (fun _ => wdP gs R k) (el (emitAt gs (R.take t) (emit0 gs.length k0 v0)).1 k) + wRows (fun k _ => wdP gs R k) (emitAt gs (R.take t) (emit0 gs.length k0 v0)).1 (R.drop (t + 1)) := by
  unfold wRows; simp only [sumI, Int.toNat_natCast]
 rw [hd, e] at hp
 generalize hsd : emitAt gs (R.take t) (emit0 gs.length k0 v0) = s at hlt hV hp
 have hs1 : ∀ a ∈ R, ∀ x : Int, 1 ≤ (fun (k : Nat) (_ : Int) => wdP gs R k) a.toNat x := fun a ha _ => by
  obtain ⟨j, hj, rfl⟩ := h.rng a ha;rw [Int.toNat_natCast];exact wdP_one h hE hS hj
 have hf := fold_w (wdP_falls h hE hS) hk (h.drop_nodup (t + 1)) (h.next hE ht ek) ((el s.1 k).take i) s (by rw [hlt]; exact h.places);have hsplit : sumI (fun _ : Int => wdP gs R k) (el s.1 k) = sumI (fun _ : Int => wdP gs R k) ((el s.1 k).take i) + sumI (fun _ : Int => wdP gs R k) ((el s.1 k).drop i) := by rw [← sumI_app, List.take_append_drop]
 have hnn : 0 ≤ sumI (fun _ : Int => wdP gs R k) ((el s.1 k).drop i) := sumI_nn fun _ _ => by have := wdP_one h hE hS hk; omega
 have hone : ((sT gs s k i).2.length : Int) ≤ sumI (fun _ => 1) (sT gs s k i).2 := sumI_ge_len fun _ _ => Int.le_refl _
 have hone0 : 0 ≤ sumI (fun _ => 1) (sT gs s k i).2 := sumI_nn fun _ _ => by omega
 have hw0 : 0 ≤ wRows (fun k _ => wdP gs R k) (sT gs s k i).1 (R.drop (t + 1)) := sumI_nn fun a ha => sumI_nn fun x _ => by have := hs1 a (List.mem_of_mem_drop ha) x; dsimp only at this ⊢; omega
 have hf' : sumI (fun _ => 1) (sT gs s k i).2 + wRows (fun k _ => wdP gs R k) (sT gs s k i).1 (R.drop (t + 1)) ≤ sumI (fun _ => 1) s.2 + sumI (fun _ => wdP gs R k) ((el s.1 k).take i) + wRows (fun k _ => wdP gs R k) s.1 (R.drop (t + 1)) := hf;have hse : el (sT gs s k i).1 k = el s.1 k := fold_self (hE.rng k hk) hself _ _ hlt;have hown : ((el s.1 k).length : Int) ≤ sumI (fun _ : Int => wdP gs R k) (el s.1 k) := sumI_ge_len fun _ _ => wdP_one h hE hS hk
 have hone1 : 0 ≤ sumI (fun _ => 1) s.2 := sumI_nn fun _ _ => by omega
 have hw1 : 0 ≤ wRows (fun k _ => wdP gs R k) s.1 (R.drop (t + 1)) := sumI_nn fun a ha => sumI_nn fun x _ => by have := hs1 a (List.mem_of_mem_drop ha) x; dsimp only at this ⊢; omega
 refine ⟨by rw [sT_len, hlt], hself, ?_, ?_, by omega, by rw [hse]; omega, fun j hj => ?_⟩
 ·rw [hsd]; exact fold_self (hE.rng k hk) hself _ _ hlt
 ·exact allV_fold (hS k hk) (hE.rng k hk) _ _ hlt (fun v hv => hV k v (List.mem_of_mem_take hv)) hV
 ·have := wRows_row (I := (sT gs s k i).1) (φ := fun k _ => wdP gs R k) (fun a ha x => hs1 a (List.mem_of_mem_drop ha) x) (h.next hE ht ek _ hj)
  omega
end
end
section
open Go.RowKit

/-- At g lie the heads xs of the rows ls; each row is nil or lies in a block of its own behind g. -/
structure Hands (g : Nat) (W : World) (xs : List Value) (ls : List (List Int)) : Prop where
 len : xs.length = ls.length
 head : W.ownsRow g 30 1 (.slice (some ⟨g, 0, none⟩) ls.length ls.length) ls.length xs
 row : ∀ j, j < ls.length → kI.Own (g + 1) W (el xs j) (el ls j)
 off : ∀ i j, i < j → j < ls.length → ∀ b, (el xs i).ownBlock = some b → (el xs j).ownBlock ≠ some b
theorem Hands.later {g : Nat} {W W' : World} {xs : List Value} {ls : List (List Int)} (h : Hands g W xs ls) (hb : Below W.heap.size W W') : Hands g W' xs ls :=
 ⟨h.len, ownsRow_below h.head hb, fun j hj => (h.row j hj).below hb, h.off⟩
theorem Hands.size {g : Nat} {W : World} {xs : List Value} {ls : List (List Int)} (h : Hands g W xs ls) : g < W.heap.size := (owns_lt h.head).2
/-- One row has grown; its head is written. -/
theorem Hands.put {g t : Nat} {W W' : World} {xs : List Value} {ls : List (List Int)} {v : Value} {x : List Int} (h : Hands g W xs ls) (ht : t < ls.length) (hO : kI.Own (g + 1) W' v x) (hG : W.grownBy W' (el xs t).ownBlock) (hw : ∀ b, v.ownBlock = some b → (el xs t).ownBlock = some b ∨ W.heap.size ≤ b) :
  Hands g (W'.setCell ⟨g, t, none⟩ v) (xs.set t v) (ls.set t x) := by
 have hx : t < xs.length := by rw [h.len]; exact ht
 have hkeep : ∀ b, b < W.heap.size → (el xs t).ownBlock ≠ some b → W'.heap[b]? = W.heap[b]? := fun b hb hne => hG.block b hb (fun e => hne e.symm)
 have hgne : (el xs t).ownBlock ≠ some g := fun e => by have := (own_block_lt (h.row t ht) e).1; omega
 have hset : ∀ b, b ≠ g → (W'.setCell ⟨g, t, none⟩ v).heap[b]? = W'.heap[b]? := fun b hb => Below.heap_setCell _ _ _ _ hb
 have hhead : W'.ownsRow g 30 1 (.slice (some ⟨g, 0, none⟩) ls.length ls.length) ls.length xs := owns_block h.head (hkeep g h.size hgne);refine ⟨by simp [h.len], ?_, ?_, ?_⟩
 ·rw [List.length_set];exact (hhead.stored t v).1
 ·intro j hj;rw [List.length_set] at hj
  by_cases e : j = t
  ·subst e;rw [el_set_same hx, el_set_same ht];exact own_keep hO fun b hb => hset b (by have := (own_block_lt hO hb).1; omega)
  ·rw [el_set_far e, el_set_far e];refine own_keep (h.row j hj) fun b hb => ?_
   have hbl := own_block_lt (h.row j hj) hb;rw [hset b (by omega)];refine hkeep b hbl.2 fun e' => ?_
   rcases Nat.lt_or_ge j t with hjt | hjt
   ·exact h.off j t hjt ht b hb e'
   ·exact h.off t j (by omega) hj b e' hb
 ·intro i j hij hj b hi;rw [List.length_set] at hj
  by_cases e1 : i = t
  ·subst e1;rw [el_set_same hx] at hi;rw [el_set_far (by omega)];intro hjb
   rcases hw b hi with h1 | h1
   ·exact h.off i j hij hj b h1 hjb
   ·have := (own_block_lt (h.row j hj) hjb).2; omega
  ·rw [el_set_far e1] at hi
   by_cases e2 : j = t
   ·subst e2;rw [el_set_same hx];intro hjb
    rcases hw b hjb with h1 | h1
    ·exact h.off i j hij hj b hi h1
    ·have := (own_block_lt (h.row i (by omega)) hi).2; omega
   ·rw [el_set_far e2];exact h.off i j hij hj b hi
/-- One row has grown: the heads stand. -/
theorem Hands.mid {g t : Nat} {W W' : World} {xs : List Value} {ls : List (List Int)} (h : Hands g W xs ls) (ht : t < ls.length) (hG : W.grownBy W' (el xs t).ownBlock) : W'.ownsRow g 30 1 (.slice (some ⟨g, 0, none⟩) ls.length ls.length) ls.length xs :=
 owns_block h.head (hG.block g h.size fun e => by have := (own_block_lt (h.row t ht) e.symm).1; omega)
theorem Hands.slice {g j : Nat} {W : World} {xs : List Value} {ls : List (List Int)} (h : Hands g W xs ls) (hj : j < ls.length) : ∃ o c, el xs j = .slice o (el ls j).length c ∧ (o = none → c = 0) ∧ kI.Fresh (g + 1) W.heap.size W o c (el ls j) := (h.row j hj).fresh
theorem hands_made {g n : Nat} {W : World} (h : W.ownsRow g 30 1 (.slice (some ⟨g, 0, none⟩) n n) n (madeCells (Value.slice none 0 0).cells (n * 1)).toList) : ∃ xs, Hands g W xs (List.replicate n []) := by
 have e : (madeCells (Value.slice none 0 0).cells (n * 1)).toList = List.replicate (n * 1) (.slice none 0 0) := toList_madeCells_one _ _;rw [e, Nat.mul_one] at h;have hel : ∀ j, j < n → el (List.replicate n (Value.slice none 0 0)) j = .slice none 0 0 := fun j hj => by simp [el, hj]
 refine ⟨List.replicate n (.slice none 0 0), by simp, by simpa using h, fun j hj => ?_, fun i j hij hj b hb => ?_⟩
 ·simp at hj
  rw [hel j hj, show el (List.replicate n ([] : List Int)) j = [] from by simp [el, hj]];exact Kind.Own.nil _ _ _
 ·simp at hj
  rw [hel i (by omega)] at hb
  simp [Value.ownBlock] at hb
end
section
open Go.RowKit

/-- What emitsAt answers. -/
def AnsEm (w : World) (em : List (Int × Int)) (e : Ending) (w' : World) : Prop := (∃ go gc, e = .returned (.slice go em.length gc) ∧ (go = none → gc = 0) ∧ kE.Fresh w.heap.size w'.heap.size w' go gc em) ∧ Below w.heap.size w w'
set_option maxHeartbeats 2000000 in
theorem emitsAt_is (k : Int) (qo : Option Addr) (qc : Nat) (q : List Int) (w : World) (hl : q.length ≤ 1000) (hz : kI.In w.heap.size w qo q) :
  Calls Tryz.prog 61 #[.int .i64 k, .slice qo q.length qc] w (AnsEm w (q.map fun x => (k, x))) := by
 have HZ := hid hz;clear hz;go_enter Tryz.func61, Tryz.ntmps61;go_wp2
 go_loopw [5, 10] (fun u j wr => ∃ (m : Nat), j = .int .i64 (m : Int) ∧ m ≤ q.length ∧ Hid (kE.Own w.heap.size wr u ((q.take m).map fun x => (k, x))) ∧ Below w.heap.size w wr) (fun _ j _ => q.length - (intOf j).toNat)
 case atStart => exact ⟨0, rfl, Nat.zero_le _, (by rw [List.take_zero]; exact Kind.Own.nil _ _ _), Below.refl _ _⟩
 case round =>
  obtain ⟨m, rfl, hm, hO, hB⟩ := hrel
  by_cases hmq : m < q.length
  ·obtain ⟨bq, oq, rfl, hbq, hcq⟩ := ints_at HZ.out hmq;have cm := (hB.cell (p := ⟨bq, oq + m, none⟩) hbq).trans (hcq m hmq);have HT : Hid (((q.take m).map fun x => (k, x)) ++ [(k, el q m)] = (q.take (m + 1)).map fun x => (k, x)) := by rw [Hid, take_succ_el hmq, List.map_append]; rfl
   have hmi : (m : Int) < (q.length : Int) := by omega
   generalize el q m = x at cm HT
   have hlm : ((q.take m).map fun x => (k, x)).length = m := by simp; omega
   generalize ((q.take m).map fun x => (k, x)) = em at hO HT hlm
   obtain ⟨go, gc, rfl⟩ := own_sliceG hO.out;obtain ⟨V, hVV⟩ : ∃ V, V = wr.alloc (.cells #[.int .i64 k, .int .i64 x] 55) := ⟨_, rfl⟩;have HBV : Below wr.heap.size wr V := by rw [hVV]; exact below1 _ _
   have OV := hid (hO.out.below HBV);have HN : Hid (kE.In V.heap.size V (some ⟨wr.heap.size, 0, none⟩) [(k, x)]) := emits_mk (by rw [hVV]; simp) (by rw [hVV]; simp) (by rw [hVV]; simp);have hLV : w.heap.size ≤ V.heap.size := Nat.le_trans hB.size HBV.size;have hBV := hid (hB.trans (HBV.mono hB.size));have HVV := hid hVV;clear hVV HBV hcq;go_wp2_with (at_builtin; rw [← HVV.out]; refine Kind.appN kE_ok V rfl (.tmp 14) (.tmp 18) rfl w.heap.size (.slice go em.length gc) em rfl OV.out hLV (some ⟨wr.heap.size, 0, none⟩) [(k, x)] 1 1 rfl rfl (by simp) _ HN.out (by simp; omega) ?_; intro v2 w2 hOa hBa hGa hna; rw [HT.out] at hOa; have OA := hid hOa; have BA := hBV.out.trans hBa; clear hOa hBa hGa hna);go_roundw
   case rel => exact ⟨m + 1, by go_num, by omega, OA, BA⟩
   case measure => simp [intOf]; omega
  ·obtain rfl : m = q.length := by omega
   rw [List.take_length] at hO;clear hmq;go_wp2;go_ret;obtain ⟨go, gc, rfl, hno, hF⟩ := hO.out.fresh;exact ⟨⟨go, gc, rfl, hno, hF⟩, hB⟩
/-- How emitsOf's memory lies: the rows that came in, behind g, and what was emitted. -/
structure EmI (g : Nat) (W : World) (xs : List Value) (I : List (List Int)) (ev : Value) (em : List (Int × Int)) : Prop where
 hands : Hands g W xs I
 em : kE.Own (g + 1) W ev em
 off : ∀ j, j < I.length → ∀ b, ev.ownBlock = some b → (el xs j).ownBlock ≠ some b
theorem EmI.later {g : Nat} {W W' : World} {xs : List Value} {I : List (List Int)} {ev : Value} {em : List (Int × Int)} (h : EmI g W xs I ev em) (hb : Below W.heap.size W W') : EmI g W' xs I ev em := ⟨h.hands.later hb, h.em.below hb, h.off⟩
theorem EmI.put {g t : Nat} {W W' : World} {xs : List Value} {I : List (List Int)} {ev : Value} {em : List (Int × Int)} {v : Value} {x : List Int} (h : EmI g W xs I ev em) (ht : t < I.length) (hO : kI.Own (g + 1) W' v x) (hG : W.grownBy W' (el xs t).ownBlock) (hw : ∀ b, v.ownBlock = some b → (el xs t).ownBlock = some b ∨ W.heap.size ≤ b) :
  EmI g (W'.setCell ⟨g, t, none⟩ v) (xs.set t v) (I.set t x) ev em := by
 refine ⟨h.hands.put ht hO hG hw, own_keep h.em fun b hb => ?_, fun j hj b hb => ?_⟩
 ·have hl := own_block_lt h.em hb;rw [Below.heap_setCell _ _ _ _ (by dsimp only; omega)];exact hG.block b hl.2 fun e => h.off t ht b hb e.symm
 ·rw [List.length_set] at hj;have hx : t < xs.length := by rw [h.hands.len]; exact ht
  by_cases e : j = t
  ·subst e;rw [el_set_same hx];intro hvb
   rcases hw b hvb with h1 | h1
   ·exact h.off j ht b hb h1
   ·have := (own_block_lt h.em hb).2; omega
  ·rw [el_set_far e];exact h.off j hj b hb
theorem EmI.emit {g : Nat} {W W' : World} {xs : List Value} {I : List (List Int)} {ev ev' : Value} {em em' : List (Int × Int)} (h : EmI g W xs I ev em) (hO : kE.Own (g + 1) W' ev' em') (hG : W.grownBy W' ev.ownBlock) (hw : ∀ b, ev'.ownBlock = some b → ev.ownBlock = some b ∨ W.heap.size ≤ b) : EmI g W' xs I ev' em' := by
 have hgb : W'.heap[g]? = W.heap[g]? := hG.block g h.hands.size fun e => by have := (own_block_lt h.em e.symm).1; omega
 refine ⟨⟨h.hands.len, owns_block h.hands.head hgb, fun j hj => own_keep (h.hands.row j hj) fun b hb => hG.block b (own_block_lt (h.hands.row j hj) hb).2 fun e => h.off j hj b e.symm hb, h.hands.off⟩, hO, fun j hj b hb hx => ?_⟩
 rcases hw b hb with h1 | h1
 ·exact h.off j hj b h1 hx
 ·have := (own_block_lt (h.hands.row j hj) hx).2; omega
end
end Go.Proofs.YtllmpinmbajpgaaGreatDoor
