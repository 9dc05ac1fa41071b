
/- A script played: the program. No conditions but those written. How long a script's answers are, plainly. No conditions but those written. A script begins: the specification. No conditions but those written. -/
import Derived.Test.YtdacedbfnlkghaaGreatDoorPSsaSkt
namespace Go.Proofs.YtdacedbfnlkghaaGreatDoor
section
open Go.RowKit

theorem ScW.later {q : Nat} {W W' : World} {st : SS} {O : Nat → Prop} (h : ScW q W st O) (hb : Below W.heap.size W W') : ScW q W' st O :=
 h.keepT (T := kS.ty) hb.size (fun b hO => hb.block b (h.lt b hO).2) (fun k cur e s hk _ => hb.block k (Array.getElem?_eq_some_iff.1 hk).1) (by decide) (by decide)
theorem ScW.grew {q lo : Nat} {W W' : World} {st : SS} {O : Nat → Prop} {v : Value} {xs : List ByteArray} (h : ScW q W st O) (ho : kS.Own lo W v xs) (ha : ∀ b, v.ownBlock = some b → ¬ O b) (hg : W.grownBy W' v.ownBlock) : ScW q W' st O :=
 h.keepT (T := kS.ty) hg.size (fun b hO => hg.block b (h.lt b hO).2 (fun e => ha b e.symm hO)) (fun k cur e s hk hne => hg.block k (Array.getElem?_eq_some_iff.1 hk).1 (fun ek => by
  rcases ho.2 with ⟨e0, _⟩ | ⟨g, cap, cur2, e0, _, hh, _⟩
  ·rw [e0] at ek; simp [Value.ownBlock] at ek
  ·rw [e0] at ek
   simp [Value.ownBlock] at ek
   subst ek;rw [hk] at hh
   simp at hh
   exact hne hh.2.1)) (by decide) (by decide)
theorem linesA_snoc : ∀ (l : List ByteArray) (st : SS) (x : ByteArray), linesA st (l ++ [x]) = ((ansR (linesA st l).1 x).1, (linesA st l).2 ++ [(ansR (linesA st l).1 x).2])
 | [], _, _ => rfl
 | y :: r, st, x => by rw [List.cons_append, linesA, linesA_snoc r, linesA]; rfl
theorem linesA_len : ∀ (l : List ByteArray) (st : SS), (linesA st l).2.length = l.length
 | [], _ => rfl
 | y :: r, st => by rw [linesA]; simp [linesA_len r]
theorem linesR_fit (s : ByteArray) : ∀ x ∈ (linesR s).1, x.size ≤ 3000 := by
 intro x hx
 unfold linesR at hx
 split at hx
 ·rename_i h;have h1 := List.mem_of_mem_take hx;exact Nat.le_trans (splitGo_short s 10 _ _ _ _ h1) h.1
 ·cases hx
/-- What playing a script answers. -/
def AnsPS (W : World) (text : ByteArray) (e : Ending) (W' : World) : Prop :=
  (if (linesR text).2 = true then ∃ q O ao c, W.heap.size ≤ q ∧ e = .returned (.tuple #[.pointer (some ⟨q, 0, none⟩), .slice ao (linesA st0 (linesR text).1).2.length c, .bool true]) ∧ ScW q W' (linesA st0 (linesR text).1).1 O ∧ kS.In W'.heap.size W' ao (linesA st0 (linesR text).1).2
   else e = .returned (.tuple #[.pointer none, .slice none 0 0, .bool false])) ∧ Below W.heap.size W W'
set_option maxRecDepth 100000 in
set_option maxHeartbeats 8000000 in
theorem playScript_is (n0 : Nat) (text : ByteArray) (W : World) (ea : Nat → Addr) (hs : text.size ≤ 1048576) (hV : Env n0 W ea) (hn : n0 ≤ W.heap.size) :
  Calls Tryz.prog 40 #[.string text] W (AnsPS W text) := by
 have HL := hid (linesOf_is text W hs);have HSH := hid (linesR_fit text);have hlen := linesR_len text;have HA : Hid (AnsPS W text = fun e W' => AnsPS W text e W') := rfl;obtain ⟨R, hR⟩ : ∃ R, R = linesR text := ⟨_, rfl⟩;rw [← hR] at HL HSH hlen;have HR := hid hR;have HV := hid hV;clear hR hV HA;obtain ⟨ls, gd⟩ := R;dsimp only at HL HSH hlen;go_enter Tryz.func40, Tryz.ntmps40;go_wp2_with fail;refine HL.out.mono ?_;rintro e w1 ⟨⟨ao, c, rfl, hI⟩, hb1⟩;have HI := hid hI;have HB1 := hid hb1;have V1 := hid (HV.out.step (hb1.mono hn));have hn1 : n0 ≤ w1.heap.size := Nat.le_trans hn hb1.size;clear hI hb1 HL
 cases gd with
 | false =>
  go_wp2;refine bodyPost_ret (v := .tuple #[.pointer none, .slice none 0 0, .bool false]) (by simp [results, Tryz.results40, go_sem]) rfl ?_;refine ⟨?_, HB1.out⟩;rw [← HR.out, if_neg (by simp)]
 | true =>
  obtain ⟨w2, h2⟩ : ∃ q, q = w1.alloc (.cells #[.slice none 0 0, .bool false, .string ⟨#[]⟩, .pointer none, .int .i64 0] 92) := ⟨_, rfl⟩;have hb2 : Below w1.heap.size w1 w2 := by rw [h2]; exact below1 _ _
  have X2 : Bx w2 w1.heap.size [.slice none 0 0, .bool false, .string ⟨#[]⟩, .pointer none, .int .i64 0] := by rw [h2]; exact Bx.new [.slice none 0 0, .bool false, .string ⟨#[]⟩, .pointer none, .int .i64 0] _ rfl
  have SC : Hid (ScW w1.heap.size w2 (linesA st0 (ls.take 0)).1 (OA w1.heap.size none)) := .inl ⟨rfl, none, 0, [], w1.heap.size + 1, ⟨X2, gr_nil, ⟨by simp, fun a ha => by cases ha⟩, X2.size, Nat.le_refl _⟩, rfl, rfl⟩;have OW : Hid (kS.Own w1.heap.size w2 (.slice none 0 0) (linesA st0 (ls.take 0)).2) := Kind.Own.nil _ _ _;have H2 := hid h2;have HB2 := hid hb2;clear h2 hb2 X2
  go_upto_region 6 with fail
  rw [← H2.out];clear H2;go_wp2
  go_loopw [8, 22] (fun u i wr => ∃ (k : Nat) (v : Value) (O : Nat → Prop), v = u ∧ k ≤ ls.length ∧ i = .int .i64 k ∧ Hid (ScW w1.heap.size wr (linesA st0 (ls.take k)).1 O) ∧ Hid (kS.Own w1.heap.size wr v (linesA st0 (ls.take k)).2) ∧ Hid (∀ b, v.ownBlock = some b → ¬ O b) ∧ Hid (Below w1.heap.size w1 wr)) (fun _ i _ => ls.length - (intOf i).toNat)
  case atStart => exact ⟨0, _, _, rfl, Nat.zero_le _, rfl, SC, OW, fun b hb => by simp [Value.ownBlock] at hb, HB2⟩
  case round =>
   clear SC OW HB2;obtain ⟨k, v, O, rfl, hk, rfl, hSC, hOW, hNO, hB⟩ := hrel
   by_cases hlt : k < ls.length
   ·obtain ⟨b, off, rfl, hb, hc⟩ := texts_at HI.out hlt;have e0 := (hB.out.cell (p := ⟨b, off + k, none⟩) hb).trans (hc k hlt);have hbz : b < wr.heap.size := Nat.lt_of_lt_of_le hb hB.out.size;have VR := hid (V1.out.step (hB.out.mono hn1));have hAN := answer_any n0 w1.heap.size wr (linesA st0 (ls.take k)).1 O ea (el ls k) hSC.out (HSH.out _ (el_mem hlt)) VR.out hn1;have hsn := linesA_snoc (ls.take k) st0 (el ls k);rw [← take_succ_el hlt] at hsn;have hll : (linesA st0 (ls.take k)).2.length + 1 ≤ 4194304 := by rw [linesA_len, List.length_take]; omega
    obtain ⟨A, hA⟩ : ∃ A, A = linesA st0 (ls.take k) := ⟨_, rfl⟩;rw [← hA] at hSC hOW hAN hsn hll;obtain ⟨line, hline⟩ : ∃ x, x = el ls k := ⟨_, rfl⟩;rw [← hline] at e0 hAN hsn;have HSN := hid hsn;have HAN := hid hAN;clear hc hA hline hsn hAN;obtain ⟨st, xs⟩ := A;dsimp only at hSC hOW HAN HSN hll;go_wp2_with fail;refine HAN.out.mono ?_;rintro e w4 ⟨O', rfl, hS4, hT4⟩;obtain ⟨T, hTT⟩ : ∃ T, T = (ansR st line).2 := ⟨_, rfl⟩;have HTT := hid hTT;rw [← hTT];have hO4 : kS.Own w1.heap.size w4 v xs := own_keep hOW.out fun b hb => hT4.block b (own_block_lt hOW.out hb).2 (hNO.out b hb)
    have hN4 := hid (fun b hb hO => by
     rcases hT4.own b hO with h1 | h1
     ·exact hNO.out b hb h1
     ·have := (own_block_lt hOW.out hb).2; omega : ∀ b, v.ownBlock = some b → ¬ O' b)
    have HB4 := hid (hB.out.trans hT4.low);obtain ⟨w5, h5⟩ : ∃ q, q = w4.alloc (.cells #[.string T] 9) := ⟨_, rfl⟩;have hb5 : Below w4.heap.size w4 w5 := by rw [h5]; exact below1 _ _
    have HS5 := hid (hS4.later hb5);have HA := hid (hO4.below hb5);have HN : Hid (kS.In w5.heap.size w5 (some ⟨w4.heap.size, 0, none⟩) [T]) := by rw [Hid, h5]; exact text_one (by simp) (by simp)
    have HB5 := hid (HB4.out.trans (hb5.mono HB4.out.size));have hs5 : w1.heap.size ≤ w5.heap.size := HB5.out.size;have H5 := hid h5;clear hTT hS4 hT4 hO4 h5 hb5 HAN hSC hOW e0;go_wp2_with (at_builtin; rw [← H5.out]; refine Kind.appN kS_ok w5 (by rfl) (.tmp 26) (.tmp 30) (by rfl) w1.heap.size v xs (by rfl) (by exact HA.out) (by exact hs5) (some ⟨w4.heap.size, 0, none⟩) [T] 1 1 (by rfl) (by rfl) (by simp) _ (by exact HN.out) (by exact hll) ?_; intro v' w' hO' hB' hG' hn'; have HB6 := hid (HB5.out.trans hB'); have HO' := hid hO'; have HS6 := hid (HS5.out.grew HA.out hN4.out hG'); have HN6 := hid (fun b hb hO => (hn' b hb).elim (fun h => hN4.out b h hO) (fun h => by have := (HS5.out.lt b hO).2; omega) : ∀ b, v'.ownBlock = some b → ¬ O' b); clear hO' hB' hG' hn');go_roundw
    case rel => exact ⟨k + 1, v', O', rfl, by omega, by go_num, by rw [HSN.out]; exact HS6, by rw [HSN.out, ← HTT.out]; exact HO', HN6, HB6⟩
    case measure => simp [intOf]; omega
   ·obtain rfl : k = ls.length := by omega
    rw [List.take_length] at hSC hOW;obtain ⟨A, hA⟩ : ∃ A, A = linesA st0 ls := ⟨_, rfl⟩;rw [← hA] at hSC hOW;have HAA := hid hA;clear hA;obtain ⟨st, xs⟩ := A;dsimp only at hSC hOW;obtain ⟨qo, qc, rfl, _, hF⟩ := hOW.out.in;have HF := hid hF;clear hF hOW;go_wp2;refine bodyPost_ret (v := .tuple #[.pointer (some ⟨w1.heap.size, 0, none⟩), .slice qo xs.length qc, .bool true]) (by simp [results, Tryz.results40, go_sem]) rfl ?_;refine ⟨?_, HB1.out.trans (hB.out.mono HB1.out.size)⟩;rw [← HR.out, if_pos rfl];dsimp only;rw [← HAA.out];exact ⟨_, _, qo, qc, HB1.out.size, rfl, hSC.out, HF.out⟩
end
section
open Go.RowKit

/-- What a script has come to is in order. -/
structure SSI (st : SS) : Prop where
 bad0 : 0 ≤ st.bad
 bad1 : st.bad ≤ 100
 run : st.bg = true → st.bad = 0 → pipeB st.gs = true ∧ ScI st.gs st.n st.s ∧ st.n ≤ 300 ∧ RgI st.s
theorem SSI.start : SSI st0 := ⟨Int.le_refl _, by decide, fun h => by cases h⟩
theorem badG_rng (gs : List PNode) : 0 ≤ badG gs ∧ badG gs ≤ 100 := by
 have := codeG_le gs
 unfold badG
 split
 ·split <;> omega
 ·omega
theorem pipe_good {gs : List PNode} (h : pipeB gs = true) : GoodE gs ∧ Ordd gs (orderP gs) ∧ widP gs ≤ 400 := by
 have h00 : codeG gs = 0 ∧ widP gs ≤ 400 := by simpa [pipeB] using h
 exact ⟨goodE_of h00.1, orderP_ordd (codeG_zero h00.1).2.2, h00.2⟩
theorem SSI.beg {st : SS} (h : SSI st) : SSI (begS st) := by
 unfold begS
 split
 ·exact h
 ·refine ⟨(badG_rng _).1, (badG_rng _).2, fun _ hb => ?_⟩;have hp := (badG_zero _).1 hb;have hg := (pipe_good hp).1;exact ⟨hp, ScI.zero hg, Nat.zero_le _, RgI.zero hg.edg.many⟩
theorem SSI.obey {st : SS} (h : SSI st) (hb : st.bg = true) (h0 : st.bad = 0) (k : Int) (l : List Int) : SSI (obeyR st k l).1 := by
 obtain ⟨r1, r2, r3⟩ := obeyR_same st k l;refine ⟨by rw [r3]; exact h.bad0, by rw [r3]; exact h.bad1, fun _ _ => ?_⟩;obtain ⟨hp, hS, hn, hR⟩ := h.run hb h0;have hg := pipe_good hp;have hit : itB st.s.it := ⟨(hS.raw hn).it0, (hS.raw hn).it1⟩;have hr := obeyR_rng st hR hit k l;rw [r1];refine ⟨hp, ?_, ?_, hr⟩
 ·unfold obeyR
  repeat' split
  all_goals first
   | exact hS
   | exact hS.ran hg.1 hg.2.1 hg.2.2 hn (hS.halt hg.1 hg.2.1 hg.2.2 hn).2
   | skip
  rw [movR_is];dsimp only
  unfold moveA
  split
  ·exact hS
  ·exact hS.move hg.1 _ _ _
 ·unfold obeyR
  repeat' split
  all_goals first
   | exact hn
   | skip
  rw [movR_is];dsimp only
  unfold moveA
  split
  ·exact hn
  ·dsimp only; omega
theorem SSI.ans {st : SS} (h : SSI st) (line : ByteArray) : SSI (ansR st line).1 := by
 have hB := h.beg
 unfold ansR
 split
 ·rename_i hb
  unfold addR
  split
  ·exact ⟨h.bad0, h.bad1, fun hh => by rw [hb.1] at hh; cases hh⟩
  ·exact h
 ·split
  ·exact hB
  ·rename_i hbad;have hbad : (begS st).bad = 0 := by simpa using hbad
   have hbg : (begS st).bg = true := by unfold begS; split <;> simp_all
   split
   ·exact hB.obey hbg hbad _ _
   ·exact hB
theorem tx_num (x : Int) (h0 : -9223372036854775808 ≤ x) (h1 : x ≤ 9223372036854775807) : (tx (Lib.itoa x)).size ≤ 100 := by
 have := itoa_short x h0 h1;rw [tx_size]; omega
theorem mean_size (gs : List PNode) (k v : Int) : (listW ⟨#[109, 101, 97, 110]⟩ ((meanR gs k v).1.map rowEmit)).size ≤ 200000000 := by
 have h1 := listB_size ⟨#[109, 101, 97, 110]⟩ ((meanR gs k v).1.map rowEmit) (by decide) (fun r hr => by
  obtain ⟨t, ht, rfl⟩ := List.mem_map.1 hr;exact ⟨by simp [rowEmit], meanR_row gs k v t ht⟩)
 have h2 := meanR_len gs k v;rw [List.length_map] at h1
 omega
theorem out_size {s : PP} (hR : RgI s) (h : s.em.length ≤ 900000) : (listW ⟨#[111, 117, 116]⟩ (s.em.map rowOut)).size ≤ 200000000 := by
 have h1 := listB_size ⟨#[111, 117, 116]⟩ (s.em.map rowOut) (by decide) (fun r hr => by
  obtain ⟨t, ht, rfl⟩ := List.mem_map.1 hr;exact ⟨by simp [rowOut], (hR.em t ht).row⟩)
 rw [List.length_map] at h1
 omega
theorem lost_size {s : PP} (hR : RgI s) (h : s.fa.length ≤ 900000) : (listW ⟨#[108, 111, 115, 116]⟩ (s.fa.map rowLost)).size ≤ 200000000 := by
 have h1 := listB_size ⟨#[108, 111, 115, 116]⟩ (s.fa.map rowLost) (by decide) (fun r hr => by
  obtain ⟨t, ht, rfl⟩ := List.mem_map.1 hr;exact ⟨by simp [rowLost], (hR.fa t ht).row⟩)
 rw [List.length_map] at h1
 omega
theorem rep_size {it : Int} {a b c : Nat} {cl : Bool} (h0 : 0 ≤ it) (h1 : it ≤ 1000000) (ha : a ≤ 1000000) (hb : b ≤ 1000000) (hc : c ≤ 1000000) : (repP it a b c cl).size ≤ 1000 := by
 have n1 := tx_num it (by omega) (by omega);have n2 := tx_num (a : Int) (by omega) (by omega);have n3 := tx_num (b : Int) (by omega) (by omega);have n4 := tx_num (c : Int) (by omega) (by omega)
 unfold repP
 simp only [ByteArray.size_append];have e1 : (tx [105, 116, 101, 109, 115, 32]).size = 6 := rfl;have e2 : (tx [32, 101, 109, 105, 116, 116, 101, 100, 32]).size = 9 := rfl;have e3 : (tx [32, 102, 97, 105, 108, 101, 100, 32]).size = 8 := rfl;have e4 : (tx [32, 108, 105, 118, 101, 32]).size = 6 := rfl;have e5 : (if cl = true then tx [32, 99, 108, 111, 115, 101, 100] else tx []).size ≤ 7 := by split <;> decide
 omega
theorem SSI.size {st : SS} (h : SSI st) (hb : st.bg = true) (h0 : st.bad = 0) (k : Int) (l : List Int) : (obeyR st k l).2.size ≤ 200000000 := by
 obtain ⟨hp, hS, hn, hR⟩ := h.run hb h0;have hg := pipe_good hp;have hw := hS.raw hn;have hem := hw.em;have hto := hw.tot;have hi0 := hw.it0;have hi1 := hw.it1
 unfold obeyR
 split
 ·have h1 := (hS.halt hg.1 hg.2.1 hg.2.2 hn).1;have h2 := tx_num (haltK st.gs st.s : Int) (by omega) (by omega);dsimp only;rw [ByteArray.size_append];have e1 : (tx [115, 116, 101, 112, 115, 32]).size = 6 := rfl
  omega
 ·split
  ·have := rep_size (cl := st.s.cl) hi0 hi1 (a := st.s.em.length) (b := st.s.fa.length) (c := totT st.s.bx) (by omega) (by omega) (by omega);dsimp only; omega
  ·split
   ·exact out_size hR (by omega)
   ·split
    ·exact lost_size hR (by omega)
    ·split
     ·dsimp only
      split
      ·exact mean_size _ _ _
      ·decide
     ·unfold movR
      split
      ·show whatT.size ≤ 200000000; decide
      ·dsimp only
       split
       ·decide
       ·have hc := doR_code st.gs (srcP st.gs st.gs.length) st.s (mvR k l).1 (mvR k l).2.1 (mvR k l).2.2;have h2 := tx_num (doR st.gs (srcP st.gs st.gs.length) st.s (mvR k l).1 (mvR k l).2.1 (mvR k l).2.2).1 (by omega) (by omega);rw [ByteArray.size_append];have e1 : (tx [110, 111, 32]).size = 3 := rfl
        omega
theorem ansR_size {st : SS} (h : SSI st) (line : ByteArray) : (ansR st line).2.size ≤ 200000000 := by
 have hB := h.beg
 unfold ansR
 split
 ·unfold addR
  split
  ·show okT.size ≤ 200000000; decide
  ·show noT.size ≤ 200000000; decide
 ·split
  ·have h2 := tx_num (begS st).bad (by have := hB.bad0; omega) (by have := hB.bad1; omega)
   unfold refT
   dsimp only;rw [ByteArray.size_append];have e1 : (tx [103, 114, 97, 112, 104, 32]).size = 6 := rfl
   omega
  ·rename_i hbad;have hbad : (begS st).bad = 0 := by simpa using hbad
   have hbg : (begS st).bg = true := by unfold begS; split <;> simp_all
   split
   ·exact hB.size hbg hbad _ _
   ·show whatT.size ≤ 200000000; decide
theorem linesA_inv : ∀ (l : List ByteArray) {st : SS}, SSI st → SSI (linesA st l).1
 | [], _, h => h
 | x :: r, _, h => linesA_inv r (h.ans x)
theorem linesA_size : ∀ (l : List ByteArray) {st : SS}, SSI st → ∀ t ∈ (linesA st l).2, t.size ≤ 200000000
 | [], _, _, _, ht => by cases ht
 | x :: r, st, h, t, ht => by
  rw [linesA] at ht
  rcases List.mem_cons.1 ht with rfl | ht
  ·exact ansR_size h x
  ·exact linesA_size r (h.ans x) t ht
/-- Answers one behind another, a byte 10 behind each. -/
def catL (l : List ByteArray) : List UInt8 := l.flatMap fun t => t.data.toList ++ [10]
theorem catL_snoc (l : List ByteArray) (t : ByteArray) : catL (l ++ [t]) = catL l ++ (t.data.toList ++ [10]) := by
 unfold catL
 rw [List.flatMap_append]
 simp
theorem catL_len : ∀ (l : List ByteArray) {m : Nat}, (∀ t ∈ l, t.size ≤ m) → (catL l).length ≤ l.length * (m + 1)
 | [], _, _ => by simp [catL]
 | t :: r, m, h => by
  have ih := catL_len r fun x hx => h x (List.mem_cons_of_mem _ hx)
  have ht := h t (by simp);have e : catL (t :: r) = (t.data.toList ++ [10]) ++ catL r := rfl;rw [e, List.length_append, List.length_append, List.length_singleton, List.length_cons, Nat.succ_mul];have e2 : t.data.toList.length = t.size := Array.length_toList
  omega
theorem catL_fit (s : ByteArray) (k : Nat) : (catL ((linesA st0 (linesR s).1).2.take k)).length ≤ 200 * 200000001 := by
 have h1 := catL_len ((linesA st0 (linesR s).1).2.take k) (m := 200000000) fun t ht => linesA_size _ SSI.start t (List.mem_of_mem_take ht)
 have h2 : ((linesA st0 (linesR s).1).2.take k).length ≤ 200 := by
  have := linesR_len s;have := linesA_len (linesR s).1 st0;rw [List.length_take]; omega
 exact Nat.le_trans h1 (Nat.mul_le_mul h2 (Nat.le_refl _))
theorem tx_data (t : ByteArray) : tx t.data.toList = t := by
 apply ByteArray.ext
 simp [tx]
/-- What RunPipe answers. -/
def AnsRP (W : World) (text : ByteArray) (e : Ending) (W' : World) : Prop := e = .returned (.string (tx (catL (linesA st0 (linesR text).1).2))) ∧ Below W.heap.size W W'
theorem linesR_bad {s : ByteArray} (h : ¬ (linesR s).2 = true) : linesR s = ([], false) := by
 unfold linesR at h ⊢
 split
 ·rename_i hc; rw [if_pos hc] at h; exact absurd rfl h
 ·rfl
end
section
open Go.RowKit

/-- What beginning leaves. -/
def AnsBq (q : Nat) (W : World) (o : Option Addr) (c : Nat) (us : List LNode) (hi : Nat) (e : Ending) (W' : World) : Prop :=
 (∃ v, e = .returned v) ∧ SStep q (OB q) (OB q) W W' ∧ if badG (us.map valNode) = 0 then ∃ lo p bb xs ev fv uv, QR q W' o c us hi lo p bb xs ev fv uv (pp0 us.length) 0
  else QB q W' o c us hi (badG (us.map valNode))
set_option maxRecDepth 100000 in
set_option maxHeartbeats 8000000 in
theorem beginS_old (q : Nat) (W : World) (v0 v1 v3 v4 : Value) (h : Bx W q [v0, v1, .bool true, v3, v4]) :
  Calls Tryz.prog 108 #[.pointer (some ⟨q, 0, none⟩)] W fun e W' => (∃ v, e = .returned v) ∧ W' = W := by
 have c2 := h.c 2 rfl;have cz := h.size;clear h;go_enter Tryz.func108, Tryz.ntmps108;go_wp2
 first | refine bodyPost_ret (results_none rfl _ _ _) rfl ?_ | refine bodyPost_end (results_none rfl _ _ _) rfl ?_
 exact ⟨⟨_, rfl⟩, rfl⟩
set_option maxRecDepth 100000 in
set_option maxHeartbeats 8000000 in
theorem beginS_any (q : Nat) (W : World) (o : Option Addr) (c : Nat) (us : List LNode) (hi : Nat) (h : QA q W o c us hi) :
  Calls Tryz.prog 108 #[.pointer (some ⟨q, 0, none⟩)] W (AnsBq q W o c us hi) := by
 have HH := hid h;obtain ⟨W1, h1⟩ : ∃ V, V = W.setCell ⟨q, 2, none⟩ (.bool true) := ⟨_, rfl⟩;have X1 : Bx W1 q [.slice o us.length c, .pointer none, .bool true, .int .i64 0, .int .i64 0] := by rw [h1]; exact h.box.set 2 _
 have G1 : GR (q + 1) hi W1 o c us := by rw [h1]; exact h.gr.setOff (.inl (by dsimp only; omega)) _
 have hb1 : SStep q (OB q) (OB q) W W1 := by rw [h1]; exact SStep.set (n := q) (O := OB q) (a := ⟨q, 2, none⟩) rfl (Nat.le_refl _) _
 have RM := h.fit.roomy G1;have HCK := hid (specCheck_is o c us W1 RM G1.in);have H1 := hid h1;have HX1 := hid X1;have HG1 := hid G1;have HB1 := hid hb1;have HRM := hid RM;have c2 := h.box.c 2 rfl;have f2 := h.box.f 2 rfl;have cz := h.box.size;have hhi := h.hi1;have hhi0 := h.hi0;have hhW : Hid (hi ≤ W1.heap.size) := Nat.le_trans h.hi1 hb1.low.size;have HBG := hid (badG_zero (us.map valNode));have hcl := codeG_le (us.map valNode);clear h X1 G1 RM h1 hb1;go_enter Tryz.func108, Tryz.ntmps108
 go_upto_region 2 with fail
 rw [← H1.out];clear H1 c2 f2 cz;have c0 := HX1.out.c 0 rfl;have c3 := HX1.out.c 3 rfl;have f3 := HX1.out.f 3 rfl;have cz := HX1.out.size;obtain ⟨cg, hcg⟩ : ∃ k : Nat, k = codeG (us.map valNode) := ⟨_, rfl⟩;rw [← hcg] at HCK hcl;have HCG := hid hcg;clear hcg;go_wp2_with fail;refine HCK.out.mono ?_;rintro e w2 ⟨rfl, hb2⟩;obtain ⟨W3, h3⟩ : ∃ V, V = w2.setCell ⟨q, 3, none⟩ (.int .i64 (cg : Int)) := ⟨_, rfl⟩;have X2 := HX1.out.later hb2;have g3 := X2.c 3 rfl;have g3f := X2.f 3 rfl;have cz2 := X2.size;have HX3 : Hid (Bx W3 q [.slice o us.length c, .pointer none, .bool true, .int .i64 (cg : Int), .int .i64 0]) := by rw [h3]; exact X2.set 3 _
 have HG3 : Hid (GR (q + 1) hi W3 o c us) := by rw [h3]; exact (HG1.out.later hb2).setOff (.inl (by dsimp only; omega)) _
 have HB3 : Hid (SStep q (OB q) (OB q) W W3) := by rw [h3]; exact (HB1.out.trans (SStep.of_below hb2 (Nat.le_of_lt HX1.out.size))).trans (SStep.set (n := q) (O := OB q) (a := ⟨q, 3, none⟩) rfl (Nat.le_refl _) _)
 have hh3 : Hid (hi ≤ W3.heap.size) := by rw [h3]; exact Nat.le_trans (Nat.le_trans hhW.out hb2.size) (by simp [World.setCell])
 have H3 := hid h3;clear h3 X2 hb2 c0 c3 f3 cz HCK
 go_upto_region 3 with fail
 rw [← H3.out];clear H3 g3 g3f cz2;have hno : Hid (pipeB (us.map valNode) = false → ∀ W4, Below W3.heap.size W3 W4 → Calls Tryz.prog 139 #[.slice o us.length c, .slice none 0 0] W4 fun e w' => (∃ q2, e = .returned (.tuple #[.pointer (some ⟨q2, 0, none⟩), .slice none 0 0, .bool false])) ∧ Below W4.heap.size W4 w') := fun hp W4 hb4 => by
  have h4 := HG3.out.later hb4;refine (l12Play_any o c us none 0 [] W4 (HH.out.fit.roomy h4) h4.in (.inl rfl) (fun k hk => by cases hk)).mono ?_;rintro e w' ⟨hA, hB⟩;rw [if_neg (fun hh => by rw [hp] at hh; cases hh.1)] at hA;exact ⟨hA, hB⟩
 have c3 := HX3.out.c 3 rfl;have f3 := HX3.out.f 3 rfl;have c0 := HX3.out.c 0 rfl;have cz := HX3.out.size
 by_cases h0 : cg = 0
 ·subst h0;have HGD := hid (l12Good_is o c us W3 (HH.out.fit.roomy HG3.out) HG3.out.in);obtain ⟨pb, hpb⟩ : ∃ pb, pb = pipeB (us.map valNode) := ⟨_, rfl⟩;rw [← hpb] at HGD;have HPB := hid hpb;clear hpb;go_wp2_with fail;refine HGD.out.mono ?_;rintro e w4 ⟨rfl, hb4⟩;have X4 := HX3.out.later hb4;have HX4 := hid X4;have HG4 := hid (HG3.out.later hb4);have HB34 := hid hb4;have HB4 := hid (HB3.out.trans (SStep.of_below hb4 (Nat.le_of_lt HX3.out.size)));have hh4 := hid (Nat.le_trans hh3.out hb4.size);have k3 := X4.c 3 rfl;have k3f := X4.f 3 rfl;have k0 := X4.c 0 rfl;have k0z := X4.size;clear X4 hb4 c3 f3 c0 cz HGD
  cases pb with
  | false =>
   obtain ⟨W5, h5⟩ : ∃ V, V = w4.setCell ⟨q, 3, none⟩ (.int .i64 8) := ⟨_, rfl⟩;have HX5 : Hid (Bx W5 q [.slice o us.length c, .pointer none, .bool true, .int .i64 8, .int .i64 0]) := by rw [h5]; exact HX4.out.set 3 _
   have HG5 : Hid (GR (q + 1) hi W5 o c us) := by rw [h5]; exact HG4.out.setOff (.inl (by dsimp only; omega)) _
   have HB5 : Hid (SStep q (OB q) (OB q) W W5) := by rw [h5]; exact HB4.out.trans (SStep.set (n := q) (O := OB q) (a := ⟨q, 3, none⟩) rfl (Nat.le_refl _) _)
   have hh5 : Hid (hi ≤ W5.heap.size) := by rw [h5]; exact Nat.le_trans hh4.out (by simp [World.setCell])
   have HPL : Hid (Calls Tryz.prog 139 #[.slice o us.length c, .slice none 0 0] W5 fun e w' => (∃ q2, e = .returned (.tuple #[.pointer (some ⟨q2, 0, none⟩), .slice none 0 0, .bool false])) ∧ Below W5.heap.size W5 w') := by
    refine (l12Play_any o c us none 0 [] W5 (HH.out.fit.roomy HG5.out) HG5.out.in (.inl rfl) (fun k hk => by cases hk)).mono ?_;rintro e w' ⟨hA, hB⟩;rw [if_neg (fun hh => by rw [← HPB.out] at hh; cases hh.1)] at hA;exact ⟨hA, hB⟩
   have H5 := hid h5;clear h5
   go_upto_region 5 with fail
   rw [← H5.out];clear H5 k3 k3f k0 k0z;have c0 := HX5.out.c 0 rfl;have cz := HX5.out.size;go_wp2_with fail;refine HPL.out.mono ?_;rintro e w6 ⟨⟨q2, rfl⟩, hb6⟩;have HX6 := hid (HX5.out.later hb6);have HG6 := hid (HG5.out.later hb6);have HB6 := hid (HB5.out.trans (SStep.of_below hb6 (Nat.le_of_lt HX5.out.size)));have hh6 := hid (Nat.le_trans hh5.out hb6.size);clear hb6 c0 cz HPL;go_wp2
   first | refine bodyPost_ret (results_none rfl _ _ _) rfl ?_ | refine bodyPost_end (results_none rfl _ _ _) rfl ?_
   have hbad : badG (us.map valNode) = 8 := by
    unfold badG
    rw [if_pos HCG.out.symm, if_neg];intro hw;have := HPB.out;rw [pipeB, decide_eq_true HCG.out.symm, decide_eq_true hw] at this
    cases this
   refine ⟨⟨_, rfl⟩, HB6.out, ?_⟩;rw [if_neg (by rw [hbad]; decide), hbad];exact ⟨HX6.out, HG6.out, HH.out.fit, hh6.out, hhi0⟩
  | true =>
   have hz0 : badG (us.map valNode) = 0 := (badG_zero _).2 HPB.out.symm;have HZ0 := hid hz0;clear hz0;have HPL : Hid (Calls Tryz.prog 139 #[.slice o us.length c, .slice none 0 0] w4 fun e w' => (∃ lo p bb xs ev fv uv v, e = .returned (.tuple #[.pointer (some ⟨p, 0, none⟩), v, .bool true]) ∧ w4.heap.size ≤ lo ∧ FlowS lo w' p bb (.slice o us.length c) xs ev fv uv (pp0 us.length)) ∧ Below w4.heap.size w4 w') := by
    refine (l12Play_any o c us none 0 [] w4 (HH.out.fit.roomy HG4.out) HG4.out.in (.inl rfl) (fun k hk => by cases hk)).mono ?_;rintro e w' ⟨hA, hB⟩;rw [if_pos ⟨HPB.out.symm, Nat.zero_le _⟩] at hA;obtain ⟨lo, p, bb, xs, ev, fv, uv, v, he, hlo, hF, _, _⟩ := hA;exact ⟨⟨lo, p, bb, xs, ev, fv, uv, v, he, hlo, hF⟩, hB⟩
   go_wp2_with fail;refine HPL.out.mono ?_;rintro e w6 ⟨⟨lo, p, bb, xs, ev, fv, uv, v, rfl, hlo, hF⟩, hb6⟩;have HX6 := hid (HX4.out.later hb6);have HG6 := hid (HG4.out.later hb6);have HB6 := hid (HB4.out.trans (SStep.of_below hb6 (Nat.le_of_lt HX4.out.size)));have HF := hid hF;have HLO := hid (Nat.le_trans hh4.out hlo);have HLQ := hid (Nat.lt_of_lt_of_le HX4.out.size hlo);have m1 := HX6.out.c 1 rfl;have m1f := HX6.out.f 1 rfl;have mz := HX6.out.size;clear hb6 hF hlo k3 k3f k0 k0z HPL;go_wp2
   first | refine bodyPost_ret (results_none rfl _ _ _) rfl ?_ | refine bodyPost_end (results_none rfl _ _ _) rfl ?_
   refine ⟨⟨_, rfl⟩, HB6.out.trans (SStep.set (n := q) (O := OB q) (a := ⟨q, 1, none⟩) rfl (Nat.le_refl _) _), ?_⟩;rw [if_pos HZ0.out];have hg := (pipe_good HPB.out.symm).1;have hsc := ScI.zero hg;rw [val_len] at hsc;have hnF : ¬ FO p bb xs ev fv uv q := fun hf => by have := HF.out.geS hf; have := HLQ.out; omega
   exact ⟨lo, p, bb, xs, ev, fv, uv, HX6.out.set 1 _, HG6.out.setOff (.inl (by dsimp only; omega)) _, HH.out.fit, HLO.out, hhi0, HF.out.setFar hnF _, HPB.out.symm, hsc, Nat.zero_le _⟩
 ·have hd : (((cg : Nat) : Int) == 0) = false := by simpa using h0
  have hpf : pipeB (us.map valNode) = false := by rw [pipeB, decide_eq_false (by rw [← HCG.out]; exact h0)]; rfl
  have hbad : Hid (badG (us.map valNode) = (cg : Int)) := by rw [Hid, badG, if_neg (by rw [← HCG.out]; exact h0), HCG.out]
  have HN0 := hid h0;have HPL := hid (hno.out hpf W3 (Below.refl _ _));clear h0 hpf;go_wp2_with fail;refine HPL.out.mono ?_;rintro e w6 ⟨⟨q2, rfl⟩, hb6⟩;have HX6 := hid (HX3.out.later hb6);have HG6 := hid (HG3.out.later hb6);have HB6 := hid (HB3.out.trans (SStep.of_below hb6 (Nat.le_of_lt HX3.out.size)));have hh6 := hid (Nat.le_trans hh3.out hb6.size);clear hb6 c0 c3 f3 cz HPL;go_wp2
  first | refine bodyPost_ret (results_none rfl _ _ _) rfl ?_ | refine bodyPost_end (results_none rfl _ _ _) rfl ?_
  refine ⟨⟨_, rfl⟩, HB6.out, ?_⟩;rw [if_neg (by rw [hbad.out]; have := HN0.out; omega), hbad.out];exact ⟨HX6.out, HG6.out, HH.out.fit, hh6.out, hhi0⟩
end
end Go.Proofs.YtdacedbfnlkghaaGreatDoor
