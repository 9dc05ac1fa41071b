
/- DrawPlayPipe and DrawRunOut from a text of bytes. No conditions but those written. Moves played on a new pipe: the program. No conditions but those written. What holds of a pipe that plays on a good graph, plainly. No conditions but those written. Meanings, plainly: sums, orders, what a node lets through. No conditions but those written. Meanings, plainly: what a value means, and how wide it may be. No conditions but those written. -/
import Derived.Test.YtllmpinmbajpgaaGreatDoorPMvd
import Derived.Test.YtllmpinmbajpgaaGreatDoorPXl
import Derived.Test.YtllmpinmbajpgaaGreatDoorPYtYb
import Derived.Test.YtllmpinmbajpgaaGreatDoorPThWp
import Derived.Test.YtllmpinmbajpgaaGreatDoorPSiSk
namespace Go.Proofs.YtllmpinmbajpgaaGreatDoor
section
open Go.RowKit

theorem BytesIn.later {n m : Nat} {W W' : World} {co : Option Addr} {bs : List Int} (h : BytesIn n W co bs) (hb : Below n W W') (hm : n ≤ m) : BytesIn m W' co bs := by
 rcases h with h | ⟨b, off, e, hbn, hc⟩
 ·exact .inl h
 ·exact .inr ⟨b, off, e, by omega, fun j hj => ⟨(World.cell?_of_block (a := ⟨b, off + j, none⟩) (hb.block b hbn)).trans (hc j hj).1, (hc j hj).2⟩⟩
theorem Cur.of {W : World} {p : Nat} {co : Option Addr} {cap : Nat} {bs : List Int} {k : Nat} {sd : Int} (h : Bx W p [.slice co bs.length cap, .int .i64 (k : Int), .int .u64 sd]) (hb : BytesIn p W co bs) : Cur W p co cap bs k sd := ⟨h.1, ⟨h.c 0 rfl, h.c 1 rfl, h.c 2 rfl⟩, ⟨h.f 0 rfl, h.f 1 rfl, h.f 2 rfl⟩, hb⟩
set_option maxRecDepth 10000 in
set_option maxHeartbeats 16000000 in
theorem drawPlay_any (co : Option Addr) (cap : Nat) (bs : List Int) (v : World) (hl : bs.length ≤ 9223372036854775807) (hb : BytesIn v.heap.size v co bs) :
  Calls Tryz.prog 5 #[.slice co bs.length cap] v fun e w' => (∃ (o : Option Addr) (c : Nat) (us : List LNode) (mo : Option Addr) (mc : Nat) (ms : List (Int × Int × Int)), e = .returned (.tuple #[.slice o us.length c, .slice mo ms.length mc]) ∧ FitS us ∧ GD v.heap.size w'.heap.size w' o c us ∧ kMv.In w'.heap.size w' mo ms ∧ ms.length ≤ 400 ∧ ∀ k, k < ms.length → (el ms k).1 ≤ 9223372036854775807) ∧ Below v.heap.size v w' := by
 obtain ⟨w, hw⟩ : ∃ w, w = v.alloc (.cells #[.slice co bs.length cap, .int .i64 0, .int .u64 0] 62) := ⟨_, rfl⟩;have hBv : Below v.heap.size v w := by rw [hw]; exact Below.allocS (Below.refl _ _) _
 have XC : Bx w (v.heap.size) [.slice co bs.length cap, .int .i64 ((0 : Nat) : Int), .int .u64 0] := by rw [hw]; exact Bx.new [.slice co bs.length cap, .int .i64 0, .int .u64 0] _ rfl
 have hvw : v.heap.size + 1 ≤ w.heap.size := by rw [hw]; simp
 have HW := hid hw;clear hw;have C0 := hid (Cur.of XC (hb.later hBv (by omega)));clear XC;go_enter Tryz.func5, Tryz.ntmps5;go_wp2_with fail;rw [← HW.out];clear HW;obtain ⟨p, hpe⟩ : ∃ p, p = v.heap.size := ⟨_, rfl⟩;rw [← hpe] at C0;rw [← hpe];have hp : p < w.heap.size := by omega
 have hvp : v.heap.size ≤ p := by omega
 clear hpe;have hR0 := Grew.refl p w;refine (graph_any p co cap bs 0 0 w hl (by omega) C0.out).mono ?_;rintro e w1 ⟨⟨o, c, us, rfl, hS, hD0⟩, k1, sd1, hk1, hC1, hg1⟩;have C1 := hid hC1;have hR1 : Grew p w w1 := hR0.trans hg1;have hz1 : w.heap.size ≤ w1.heap.size := hg1.size;clear C0 hg1 hC1;have D1 := hid hD0;clear hD0;have hul : us.length ≤ 11 := hS.1;have HS := hid hS;clear hS;go_wp2_with fail;refine (moves_any p co cap bs k1 sd1 w1 hl (by omega) o us.length c (by omega) C1.out).mono ?_;rintro e w2 ⟨⟨mo, mc, ms, rfl, hml, hMS, hRW⟩, k2, sd2, hk2, hC2, hg2⟩;have D2 := hid (D1.out.grew hg2 (by omega));have C2 := hid hC2;have hR2 : Grew p w w2 := hR1.trans hg2;have hz2 : w1.heap.size ≤ w2.heap.size := hg2.size;clear D1 C1 hg2 hC2;go_wp2;refine bodyPost_ret (v := .tuple #[.slice o us.length c, .slice mo ms.length mc]) (by simp [results, Tryz.results5, go_sem]) rfl ?_;exact ⟨⟨o, c, us, mo, mc, ms, rfl, HS.out, D2.out.wide (by omega) (by omega), hRW.in, hml, fun k hk => by have := hMS (el ms k) (el_mem hk); omega⟩, hBv.trans (hR2.below (by omega) (by omega))⟩
set_option maxHeartbeats 1000000 in
theorem drawRun_any (co : Option Addr) (cap : Nat) (bs : List Int) (v : World) (hl : bs.length ≤ 9223372036854775807) (hb : BytesIn v.heap.size v co bs) :
  Calls Tryz.prog 15 #[.slice co bs.length cap] v fun e w' => (∃ (o : Option Addr) (c : Nat) (us : List LNode) (mo : Option Addr) (mc : Nat) (ms : List (Int × Int × Int)), e = .returned (.tuple #[.slice o us.length c, .slice mo ms.length mc]) ∧ FitS us ∧ GD v.heap.size w'.heap.size w' o c us ∧ kMv.In w'.heap.size w' mo ms ∧ ms.length ≤ 400 ∧ ∀ k, k < ms.length → (el ms k).1 ≤ 9223372036854775807) ∧ Below v.heap.size v w' := by
 go_enter Tryz.func15, Tryz.ntmps15;go_wp2_with fail;refine (drawPlay_any co cap bs v hl hb).mono ?_;rintro e w1 ⟨⟨o, c, us, mo, mc, ms, rfl, h⟩, hB⟩;go_wp2;refine bodyPost_ret (v := .tuple #[.slice o us.length c, .slice mo ms.length mc]) (by simp [results, Tryz.results15, go_sem]) rfl ?_;exact ⟨⟨o, c, us, mo, mc, ms, rfl, h⟩, hB⟩
end
section
open Go.RowKit

/-- A pipe that was played on, and the codes. -/
def AnsPl (ao : Option Addr) (cap : Nat) (ts : List LNode) (ms : List (Int × Int × Int)) (w : World) (e : Ending) (w' : World) : Prop :=
  (if pipeB (ts.map valNode) = true ∧ ms.length ≤ 300 then ∃ lo p bb so sc xs ev fv uv v, e = .returned (.tuple #[.pointer (some ⟨p, 0, none⟩), v, .bool true]) ∧ w.heap.size ≤ lo ∧ kI.In lo w' so (srcP (ts.map valNode) ts.length) ∧
      Flow lo w' p bb (.slice ao ts.length cap) (.slice so (srcP (ts.map valNode) ts.length).length sc) xs ev fv uv (playP (ts.map valNode) (srcP (ts.map valNode) ts.length) ms (pp0 ts.length)).2 ∧ kI.Own lo w' v (playP (ts.map valNode) (srcP (ts.map valNode) ts.length) ms (pp0 ts.length)).1 ∧ ∀ b, v.ownBlock = some b → ¬ FO p bb xs ev fv uv b
   else e = .returned (.tuple #[.pointer none, .slice none 0 0, .bool false])) ∧ Below w.heap.size w w'
set_option maxRecDepth 10000 in
set_option maxHeartbeats 4000000 in
theorem played_any (ao : Option Addr) (cap : Nat) (ts : List LNode) (ea : Nat → Addr) (mo : Option Addr) (mc : Nat) (ms : List (Int × Int × Int)) (w : World) (hC : Roomy ts cap) (hE : Errs w ea) (hz : DIn dNode w.heap.size w ao ts) (hM : kMv.In w.heap.size w mo ms) (h64 : ∀ k, k < ms.length → (el ms k).1 ≤ 9223372036854775807) :
    Calls Tryz.prog 23 #[.slice ao ts.length cap, .slice mo ms.length mc] w (AnsPl ao cap ts ms w) := by
  have HF := hid (flowIn_any ao cap ts ea w hC hE hz)
  have HZ := hid hz
  have HM := hid hM
  have H64 := hid h64
  clear hC hE hM h64
  by_cases hok : pipeB (ts.map valNode) = true
  · by_cases hl : ms.length ≤ 300
    · have hd : decide ((300 : Int) < (ms.length : Int)) = false := by simp; omega
      have h0 : codeG (ts.map valNode) = 0 := by simp [pipeB] at hok; exact hok.1
      obtain ⟨hm, hbk, hor⟩ := codeG_zero h0
      have HED := hid (edges_of (by omega) (hbk 4 (by omega)))
      have HCP := hid (caps_of (hbk 3 (by omega)))
      have h1 : 0 < ts.length := by rw [val_len] at hm; omega
      have h10 : ts.length ≤ 10 := by rw [val_len] at hm; omega
      obtain ⟨gb, goff, rfl, hgb, _⟩ := hNode_at hz.1 h1
      clear hz h0 hm hbk hor
      go_enter Tryz.func23, Tryz.ntmps23
      go_wp2_with fail
      refine HF.out.mono ?_
      rintro e w1 ⟨hq, hb1⟩
      rw [if_pos hok] at hq
      obtain ⟨lo, p, bb, so, sc, xs, rfl, hlo, hI, F⟩ := hq
      have HB1 := hid hb1
      have HI := hid hI
      have HF0 := hid F
      clear hb1 hI F HF
      go_wp2
      obtain ⟨SRC, hSRC⟩ : ∃ q, q = srcP (ts.map valNode) ts.length := ⟨_, rfl⟩
      have hsrl : SRC.length ≤ 1000 := by rw [hSRC, srcP]; have := List.length_filter_le (fun x => decide (ledC (ts.map valNode) (ts.map valNode).length x.toNat = 0)) (numsI ts.length); rw [show (numsI ts.length).length = ts.length from by simp [numsI]] at this; omega
      have hsrg : ∀ x ∈ SRC, ∃ j : Nat, j < ts.length ∧ x = (j : Int) := by rw [hSRC]; exact srcP_rng _ _
      have HSR := hid hSRC
      rw [← hSRC] at HI HF0
      clear hSRC
      go_loopw [9, 26] (fun u i wr => ∃ (m : Nat) (v : Value), v = u ∧ i = .int .i64 (m : Int) ∧ m ≤ ms.length ∧ ∃ bb xs ev fv uv, Hid (Flow lo wr p bb (.slice (some ⟨gb, goff, none⟩) ts.length cap) (.slice so SRC.length sc) xs ev fv uv (playP (ts.map valNode) SRC (ms.take m) (pp0 ts.length)).2) ∧ Hid (kI.Own lo wr v (playP (ts.map valNode) SRC (ms.take m) (pp0 ts.length)).1) ∧ Hid (∀ b, v.ownBlock = some b → ¬ FO p bb xs ev fv uv b) ∧ Hid (Below lo w1 wr)) (fun _ i _ => ms.length - (intOf i).toNat)
      case atStart => exact ⟨0, _, rfl, rfl, Nat.zero_le _, bb, xs, _, _, _, HF0, Kind.Own.nil _ _ _, (fun b hb => by simp [Value.ownBlock] at hb), Below.refl _ _⟩
      case round =>
        obtain ⟨m, v, rfl, rfl, hm, bb, xs, ev, fv, uv, hF, hO, hA, hB⟩ := hrel
        by_cases hlt : m < ms.length
        · obtain ⟨b, off, rfl, hb, hc⟩ := kMv_at HM.out hlt
          obtain ⟨d0, d1, d2⟩ := hc m hlt
          have HW := hid (HB1.out.trans (hB.out.mono hlo))
          have e0 := (HW.out.cell (p := ⟨b, off + m * 3, none⟩) hb).trans d0
          have e1 := (HW.out.cell (p := ⟨b, off + m * 3 + 1, none⟩) hb).trans d1
          have e2 := (HW.out.cell (p := ⟨b, off + m * 3 + 2, none⟩) hb).trans d2
          have h6 := H64.out m hlt
          have HT := hid (take_succ_el hlt)
          have HBN := hid (playP_bnd SRC HED.out ms (by rw [val_len]; exact pp0_bnd ts.length) m hm)
          clear d0 d1 d2 hc
          go_wp2_with fail
          have hb6 := below1 wr (.cells #[.int .i64 (el ms m).1, .int .i64 (el ms m).2.1, .int .i64 (el ms m).2.2] 42)
          have hlr : lo ≤ wr.heap.size := Nat.le_of_lt (Nat.lt_of_le_of_lt hF.out.lop hF.out.box.size)
          have HBV := hid (HW.out.trans (hb6.mono HW.out.size))
          have HBN2 := HBN.out
          rw [val_len] at HBN2
          refine (do_any lo _ p bb gb goff cap ts so sc SRC xs ev fv uv _ (el ms m).1 (el ms m).2.1 (el ms m).2.2 m (hF.out.later hb6) ((HZ.out.below dNode_ok HBV.out).up dNode_ok hlo) ((HI.out.below hB.out).below (hb6.mono hlr)) hsrg hsrl HED.out (fun j hj => HCP.out j (by rw [val_len]; exact hj)) HBN2 (by omega) h6).mono ?_
          rintro e w4 ⟨rfl, hs4⟩
          obtain ⟨bb4, xs4, ev4, fv4, uv4, F4, O4, A4, B4⟩ := hs4.codes (hO.out.below hb6) hA.out
          obtain ⟨cd, hcd⟩ : ∃ cd, cd = (doR (ts.map valNode) SRC (playP (ts.map valNode) SRC (ms.take m) (pp0 ts.length)).2 (el ms m).1 (el ms m).2.1 (el ms m).2.2).1 := ⟨_, rfl⟩
          have hps := playP_snoc (ts.map valNode) SRC (ms.take m) (el ms m) (pp0 ts.length)
          rw [← hcd] at hps
          have hol := playP_len (ts.map valNode) SRC ms (pp0 ts.length) m hm
          rw [← hcd]
          obtain ⟨X, hX⟩ : ∃ X, X = w4.alloc (.cells #[.int .i64 cd] 3) := ⟨_, rfl⟩
          have hbX : Below w4.heap.size w4 X := by rw [hX]; exact below1 _ _
          have hNX : kI.In X.heap.size X (some ⟨w4.heap.size, 0, none⟩) [cd] := by
            have hx : Bx X w4.heap.size [.int .i64 cd] := by rw [hX]; exact Bx.new (w := w4) [.int .i64 cd] 3 rfl
            exact ints_mk hx.size fun j hj => by obtain rfl : j = 0 := by simp at hj; omega
                                                 exact hx.c 0 rfl
          have HX := hid hX
          have HFX := hid (F4.later hbX)
          have HOX := hid (O4.below hbX)
          have HN := hid hNX
          have HAX := hid A4
          have HBB : Hid (Below lo w1 X) := hB.out.trans (((hb6.mono hlr).trans B4).trans (hbX.mono (Nat.le_of_lt (Nat.lt_of_le_of_lt F4.lop F4.box.size))))
          have hlX : lo ≤ X.heap.size := Nat.le_of_lt (Nat.lt_of_le_of_lt HFX.out.lop HFX.out.box.size)
          have HPS := hid hps
          clear hX hbX hNX F4 O4 A4 B4 hcd hps HBN2 hb6 HBV e0 e1 e2 hF hO hA
          go_wp2_with (at_builtin; rw [← HX.out]; refine Kind.appN kI_ok X rfl (.tmp 30) (.tmp 34) rfl lo v (playP (ts.map valNode) SRC (ms.take m) (pp0 ts.length)).1 rfl HOX.out hlX (some ⟨w4.heap.size, 0, none⟩) [cd] 1 1 rfl rfl (by simp) _ HN.out (by simp; omega) ?_; intro v' w5 hO5 hB5 hG5 hw5; have HC5 := hid (HFX.out.code HAX.out hG5 hw5); have HO5 := hid hO5; have HB5 := hid (HBB.out.trans hB5); clear hO5 hB5 hG5 hw5)
          go_roundw
          case rel => exact ⟨m + 1, v', rfl, by go_num, by omega, bb4, xs4, ev4, fv4, uv4, by rw [HT.out, HPS.out]; exact HC5.out.1, by rw [HT.out, HPS.out]; exact HO5, HC5.out.2, HB5⟩
          case measure => simp [intOf]; omega
        · obtain rfl : m = ms.length := by omega
          rw [List.take_length] at hF hO
          go_wp2
          refine bodyPost_ret (v := .tuple #[.pointer (some ⟨p, 0, none⟩), v, .bool true]) (by simp [results, Tryz.results23, go_sem]) rfl ?_
          refine ⟨?_, HB1.out.trans (hB.out.mono hlo)⟩
          rw [if_pos ⟨hok, hl⟩, ← HSR.out]
          exact ⟨lo, p, bb, so, sc, xs, ev, fv, uv, v, rfl, hlo, HI.out.below hB.out, hF.out, hO.out, hA.out⟩
    · have hd : decide ((300 : Int) < (ms.length : Int)) = true := by simp; omega
      go_enter Tryz.func23, Tryz.ntmps23
      go_wp2_with fail
      refine HF.out.mono ?_
      rintro e w1 ⟨hq, hb1⟩
      rw [if_pos hok] at hq
      obtain ⟨lo, p, bb, so, sc, xs, rfl, _⟩ := hq
      go_wp2
      refine bodyPost_ret (v := .tuple #[.pointer none, .slice none 0 0, .bool false]) (by simp [results, Tryz.results23, go_sem]) rfl ?_
      exact ⟨by rw [if_neg (fun h => hl h.2)], hb1⟩
  · go_enter Tryz.func23, Tryz.ntmps23
    go_wp2_with fail
    refine HF.out.mono ?_
    rintro e w1 ⟨hq, hb1⟩
    rw [if_neg hok] at hq
    obtain rfl := hq
    go_wp2
    refine bodyPost_ret (v := .tuple #[.pointer none, .slice none 0 0, .bool false]) (by simp [results, Tryz.results23, go_sem]) rfl ?_
    exact ⟨by rw [if_neg (fun h => hok h.1)], hb1⟩
end
section
open Go.RowKit

/-- A good graph, plainly. -/
structure GoodE (gs : List PNode) : Prop where
 edg : EdgesIn gs
 cap : ∀ j, j < gs.length → 3 ≤ capP gs j ∧ capP gs j ≤ 8
 once : ∀ a, a < gs.length → (nxP gs a).Nodup
 st : ∀ k, k < gs.length → goodSt (el gs k).2.1 (el gs k).2.2.1 (el gs k).2.2.2.1 = true
theorem goodE_of {gs : List PNode} (h : codeG gs = 0) : GoodE gs := by
 obtain ⟨hm, hbk, _⟩ := codeG_zero h;refine ⟨edges_of (by omega) (hbk 4 (by omega)), fun j hj => ?_, fun a ha => ?_, fun k hk => ?_⟩
 ·have := brk_at (hbk 3 (by omega)) hj;simp only [prule, Int.toNat_natCast, Bool.or_eq_false_iff, decide_eq_false_iff_not] at this;rw [capP]; omega
 ·have := brk_at (hbk 4 (by omega)) ha;simp only [prule, Int.toNat_natCast] at this;have h2 : goodNx (nxP gs a) (gs.length : Int) = true := by simpa [nxP] using this
  exact (goodNx_iff.1 h2).2
 ·have := brk_at (hbk 2 (by omega)) hk;simp only [prule, Int.toNat_natCast] at this
  simpa using this
theorem appR_val {k a b v : Int} : ∀ x ∈ (appR k a b v).1, valB x = true := by
 intro x hx
 unfold appR at hx
 split at hx
 ·rename_i h
  simp at h; exact appSt_val h.1 h.2 x hx
 ·cases hx
/-- Every token bears a value. -/
def VlB (bx : List (List (Int × Int × Int))) : Prop := ∀ k t, t ∈ el bx k → valB t.2.1 = true
theorem VlB.set {bx : List (List (Int × Int × Int))} (h : VlB bx) (k : Nat) {x : List (Int × Int × Int)} (hx : ∀ t ∈ x, valB t.2.1 = true) : VlB (bx.set k x) := fun j t ht => by
 by_cases e : j = k
 ·subst e
  by_cases hj : j < bx.length
  ·rw [el_set_same hj] at ht; exact hx t ht
  ·rw [List.set_eq_of_length_le (by omega)] at ht; exact h j t ht
 ·rw [el_set_far e] at ht; exact h j t ht
theorem VlB.put {bx : List (List (Int × Int × Int))} (h : VlB bx) (k : Nat) (a b : Int) (hb : valB b = true) : VlB (bx.set k (el bx k ++ [(a, b, 0)])) := h.set k fun t ht => by
 rcases List.mem_append.1 ht with h1 | h1
 ·exact h k t h1
 ·rw [List.mem_singleton.1 h1]; exact hb
theorem VlB.puts (a b : Int) (hb : valB b = true) : ∀ (l : List Int) {bx : List (List (Int × Int × Int))}, VlB bx → VlB (putsTo (a, b, 0) bx l)
 | [], _, h => h
 | x :: r, _, h => VlB.puts a b hb r (h.put x.toNat a b hb)
theorem el_clr (bx : List (List (Int × Int × Int))) (j : Nat) : el (clr bx bx.length) j = [] := by
 simp only [Go.Proofs.YtllmpinmbajpgaaGreatDoor.clr, el, List.drop_length, List.append_nil]
 by_cases hj : j < bx.length
 ·simp [hj]
 ·simp [hj]; rfl
/-- Boxes within their room. -/
def CpB (gs : List PNode) (bx : List (List (Int × Int × Int))) : Prop := ∀ k, k < gs.length → ((el bx k).length : Int) ≤ capP gs k
theorem CpB.set {gs : List PNode} {bx : List (List (Int × Int × Int))} (h : CpB gs bx) (k : Nat) {x : List (Int × Int × Int)} (hx : (x.length : Int) ≤ capP gs k) : CpB gs (bx.set k x) := fun j hj => by
 by_cases e : j = k
 ·subst e
  by_cases hj2 : j < bx.length
  ·rw [el_set_same hj2]; exact hx
  ·rw [List.set_eq_of_length_le (by omega)]; exact h j hj
 ·rw [el_set_far e]; exact h j hj
theorem putsTo_far (t : Int × Int × Int) {j : Nat} : ∀ (l : List Int) (bx : List (List (Int × Int × Int))), (∀ x ∈ l, x.toNat ≠ j) → el (putsTo t bx l) j = el bx j
 | [], _, _ => rfl
 | y :: r, bx, h => by
  rw [putsTo, putsTo_far t r _ (fun x hx => h x (List.mem_cons_of_mem _ hx)), el_set_far (fun e => h y (by simp) e.symm)]
theorem putsTo_len1 (t : Int × Int × Int) {j : Nat} : ∀ (l : List Int) (bx : List (List (Int × Int × Int))), (∀ x ∈ l, 0 ≤ x) → l.Nodup → (el (putsTo t bx l) j).length ≤ (el bx j).length + (if (j : Int) ∈ l then 1 else 0)
 | [], _, _, _ => Nat.le_add_right _ _
 | y :: r, bx, h, hn => by
  have h1 := List.nodup_cons.1 hn;have hy := h y (by simp);rw [putsTo]
  by_cases e : y.toNat = j
  ·have hyj : y = (j : Int) := by omega
   rw [putsTo_far t r _ (fun x hx e2 => h1.1 (by have := h x (List.mem_cons_of_mem _ hx); rw [show y = x by omega]; exact hx)), if_pos (by rw [hyj]; simp), e]
   by_cases hj : j < bx.length
   ·rw [el_set_same hj]; simp
   ·rw [List.set_eq_of_length_le (by omega)]; omega
  ·have h2 := putsTo_len1 t (j := j) r (bx.set y.toNat (el bx y.toNat ++ [t])) (fun x hx => h x (List.mem_cons_of_mem _ hx)) h1.2;rw [el_set_far (Ne.symm e)] at h2
   by_cases hm : (j : Int) ∈ r
   ·rw [if_pos hm] at h2;rw [if_pos (List.mem_cons_of_mem _ hm)]; exact h2
   ·rw [if_neg hm] at h2
    omega
/-- What holds of a pipe that plays. -/
structure InvS (gs : List PNode) (s : PP) : Prop where
 cap : CpB gs s.bx
 val : VlB s.bx
theorem InvS.abort {gs : List PNode} {s : PP} (hG : GoodE gs) : InvS gs (abortP s) :=
 ⟨fun k hk => by show ((el (clr s.bx s.bx.length) k).length : Int) ≤ _; rw [el_clr]; have := (hG.cap k hk).1; simp only [List.length_nil]; omega, fun k t ht => by
  have ht2 : t ∈ el (clr s.bx s.bx.length) k := ht;rw [el_clr] at ht2; cases ht2⟩
theorem InvS.failT {gs : List PNode} {s : PP} (hG : GoodE gs) (h : InvS gs s) : InvS gs (failT s) := by
 unfold Go.Proofs.YtllmpinmbajpgaaGreatDoor.failT
 split
 ·have a := InvS.abort (s := s) hG;exact ⟨a.cap, a.val⟩
 ·exact ⟨h.cap, h.val⟩
theorem InvS.fail {gs : List PNode} {s : PP} (hG : GoodE gs) (h : InvS gs s) {k : Nat} {t1 t2 t3 : Int} {r : List (Int × Int × Int)} (hk : k < gs.length) (hr : el s.bx k = (t1, t2, t3) :: r) : InvS gs (failP s k t1 t2 t3 r) := by
 unfold failP
 have hv := h.val k (t1, t2, t3) (by rw [hr]; simp);have hrr : ∀ t ∈ r, valB t.2.1 = true := fun t ht => h.val k t (by rw [hr]; exact List.mem_cons_of_mem _ ht)
 have hc := h.cap k hk;rw [hr] at hc;simp only [List.length_cons] at hc;refine InvS.failT hG ?_
 split
 ·exact ⟨h.cap.set k (by omega), h.val.set k hrr⟩
 ·refine ⟨h.cap.set k (by simp only [List.length_cons]; exact hc), h.val.set k fun t ht => ?_⟩
  rcases List.mem_cons.1 ht with rfl | h1
  ·exact hv
  ·exact hrr t h1
theorem leadAll_val (gs : List PNode) (k : Nat) (it : Int) : ∀ (l : List Int) (s : PP), (∀ v ∈ l, valB v = true) → VlB s.bx → VlB (leadAll gs k it l s).bx
 | [], _, _, h => h
 | y :: r, s, hl, h => by
  rw [leadAll];refine leadAll_val gs k it r _ (fun v hv => hl v (List.mem_cons_of_mem _ hv)) ?_
  unfold leadR; split
  ·exact h
  ·exact VlB.puts it y (hl y (by simp)) _ h
theorem leadAll_cap {gs : List PNode} {k : Nat} (it : Int) (h0 : ∀ x ∈ nxP gs k, 0 ≤ x) (hn : (nxP gs k).Nodup) : ∀ (l : List Int) (s : PP) (j : Nat), (el (leadAll gs k it l s).bx j).length ≤ (el s.bx j).length + (if (j : Int) ∈ nxP gs k then l.length else 0)
 | [], s, j => by rw [leadAll]; exact Nat.le_add_right _ _
 | y :: r, s, j => by
  have h1 := leadAll_cap it h0 hn r (leadR gs s k it y) j;rw [leadAll];have h2 : (el (leadR gs s k it y).bx j).length ≤ (el s.bx j).length + (if (j : Int) ∈ nxP gs k then 1 else 0) := by
   unfold leadR; split
   ·exact Nat.le_add_right _ _
   ·exact putsTo_len1 _ _ _ h0 hn
  by_cases hm : (j : Int) ∈ nxP gs k
  ·rw [if_pos hm] at h1 h2 ⊢;simp only [List.length_cons]; omega
  ·rw [if_neg hm] at h1 h2 ⊢
   omega
theorem InvS.step {gs : List PNode} {s : PP} (hG : GoodE gs) (h : InvS gs s) (hl : s.bx.length = gs.length) (m : Int) : InvS gs (stepR gs s m).2 := by
 unfold stepR
 split
 ·rename_i hin;have hk : m.toNat < s.bx.length := by omega
  have hkg : m.toNat < gs.length := by omega
  split
  ·exact h
  ·rename_i t r hr;obtain ⟨t1, t2, t3⟩ := t
   split
   ·exact h.fail hG hkg hr
   ·split
    ·exact h
    ·rename_i hb;have hrr : ∀ t ∈ r, valB t.2.1 = true := fun t ht => h.val m.toNat t (by rw [hr]; exact List.mem_cons_of_mem _ ht)
     refine ⟨fun j hj => ?_, leadAll_val gs _ _ _ _ (fun v hv => appR_val v hv) (h.val.set _ hrr)⟩;have h0 : ∀ x ∈ nxP gs m.toNat, 0 ≤ x := fun x hx => by obtain ⟨a, _, rfl⟩ := hG.edg.rng _ hkg x hx; omega
     have h1 := leadAll_cap (gs := gs) (k := m.toNat) t1 h0 (hG.once _ hkg) (stApp gs m.toNat t2).1 { s with bx := s.bx.set m.toNat r } j;have h2 : (el (s.bx.set m.toNat r) j).length ≤ (el s.bx j).length := by
      by_cases e : j = m.toNat
      ·rw [e, el_set_same hk, hr]; simp
      ·rw [el_set_far e]; exact Nat.le_refl _
     have hc := h.cap j hj;dsimp only at h1 ⊢
     by_cases hm : (j : Int) ∈ nxP gs m.toNat
     ·rw [if_pos hm] at h1;have h3 : ¬ capP gs j - ((el s.bx j).length : Int) < ((stApp gs m.toNat t2).1.length : Int) := fun hlt => hb (by
       unfold blkP
       rw [List.any_eq_true];exact ⟨(j : Int), hm, by rw [Int.toNat_natCast]; exact decide_eq_true hlt⟩)
      omega
     ·rw [if_neg hm] at h1
      omega
 ·exact h
theorem InvS.fault {gs : List PNode} {s : PP} (hG : GoodE gs) (h : InvS gs s) (hl : s.bx.length = gs.length) (m : Int) : InvS gs (faultR s m).2 := by
 unfold faultR
 split
 ·rename_i hin
  split
  ·exact h
  ·rename_i t r hr;exact h.fail hG (by omega) hr
 ·exact h
theorem InvS.offer {gs : List PNode} {src : List Int} {s : PP} (h : InvS gs s) (m v : Int) : InvS gs (offerR gs src s m v).2 := by
 unfold offerR
 split
 ·rename_i hv
  split
  ·exact h
  ·split
   ·exact h
   ·rename_i hr;refine ⟨h.cap.set _ ?_, h.val.put _ _ _ hv.2⟩;rw [List.length_append, List.length_singleton]; omega
 ·exact h
/-- A move keeps it. -/
theorem InvS.move {gs : List PNode} {src : List Int} {s : PP} (hG : GoodE gs) (h : InvS gs s) (hl : s.bx.length = gs.length) (m1 m2 m3 : Int) : InvS gs (doR gs src s m1 m2 m3).2 := by
 unfold doR
 split
 ·exact h.offer m2 m3
 ·split
  ·exact h.step hG hl m2
  ·split
   ·exact h.fault hG hl m2
   ·split
    ·unfold tickR
     split
     ·exact h
     ·split
      ·exact h
      ·exact ⟨h.cap, h.val⟩
    ·split
     ·unfold drainR
      split
      ·exact h
      ·exact ⟨h.cap, h.val⟩
     ·split
      ·unfold abortR
       split
       ·exact h
       ·exact InvS.abort hG
      ·exact h
theorem pp0_inv {gs : List PNode} (hG : GoodE gs) : InvS gs (pp0 gs.length) := by
 have e : ∀ k, el (pp0 gs.length).bx k = [] := fun k => by
  show el (List.replicate gs.length ([] : List (Int × Int × Int))) k = []
  by_cases hk : k < gs.length
  ·simp [el, hk]
  ·simp [el, hk]; rfl
 exact ⟨fun k hk => by rw [e]; have := (hG.cap k hk).1; simp only [List.length_nil]; omega, fun k t ht => by rw [e] at ht; cases ht⟩
theorem playP_inv {gs : List PNode} (src : List Int) (hG : GoodE gs) (l : List (Int × Int × Int)) {s : PP} (h : InvS gs s) (hB : BndP gs.length 0 s) : ∀ n, n ≤ l.length → InvS gs (playP gs src (l.take n) s).2
 | 0, _ => h
 | n + 1, hn => by
  rw [take_succ_el (by omega), playP_snoc];exact (playP_inv src hG l h hB n (by omega)).move hG ((playP_bnd src hG.edg l hB n (by omega)).len) _ _ _
end
section
open Go.RowKit

/-- A sum over a list. -/
def sumI {α : Type} (f : α → Int) : List α → Int
 | [] => 0
 | x :: r => f x + sumI f r
section
variable {α β : Type}
theorem sumI_app (f : α → Int) : ∀ l r : List α, sumI f (l ++ r) = sumI f l + sumI f r
 | [], r => by simp [sumI]
 | x :: l, r => by simp only [List.cons_append, sumI, sumI_app f l r]; omega
theorem sumI_one (f : α → Int) (x : α) : sumI f [x] = f x := by simp [sumI]
theorem sumI_congr {f g : α → Int} : ∀ {l : List α}, (∀ x ∈ l, f x = g x) → sumI f l = sumI g l
 | [], _ => rfl
 | x :: r, h => by simp only [sumI]; rw [h x (by simp), sumI_congr (l := r) fun y hy => h y (by simp [hy])]
theorem sumI_le {f g : α → Int} : ∀ {l : List α}, (∀ x ∈ l, f x ≤ g x) → sumI f l ≤ sumI g l
 | [], _ => Int.le_refl _
 | x :: r, h => by have h1 := h x (by simp); have h2 := sumI_le (l := r) fun y hy => h y (by simp [hy]); simp only [sumI]; omega
theorem sumI_neg (f : α → Int) : ∀ l : List α, sumI (fun x => - f x) l = - sumI f l
 | [] => rfl
 | x :: r => by simp only [sumI, sumI_neg f r]; omega
theorem sumI_add (f g : α → Int) : ∀ l : List α, sumI (fun x => f x + g x) l = sumI f l + sumI g l
 | [] => rfl
 | x :: r => by simp only [sumI, sumI_add f g r]; omega
theorem sumI_zero : ∀ l : List α, sumI (fun _ => 0) l = 0
 | [] => rfl
 | x :: r => by simp only [sumI, sumI_zero r]; omega
theorem sumI_map (f : β → Int) (g : α → β) : ∀ l : List α, sumI f (l.map g) = sumI (fun x => f (g x)) l
 | [] => rfl
 | x :: r => by simp only [List.map_cons, sumI, sumI_map f g r]
theorem sumI_flat (f : β → Int) (g : α → List β) : ∀ l : List α, sumI f (l.flatMap g) = sumI (fun x => sumI f (g x)) l
 | [] => rfl
 | x :: r => by simp only [List.flatMap_cons, sumI, sumI_app, sumI_flat f g r]
theorem sumI_swap (f : α → β → Int) : ∀ (l : List α) (r : List β), sumI (fun x => sumI (f x) r) l = sumI (fun y => sumI (fun x => f x y) l) r
 | [], r => by simp only [sumI]; rw [sumI_zero]
 | x :: l, r => by simp only [sumI]; rw [sumI_swap f l r, sumI_add]
theorem sumI_nn {f : α → Int} {l : List α} (h : ∀ x ∈ l, 0 ≤ f x) : 0 ≤ sumI f l := by
 have := sumI_le (f := fun _ => 0) (g := f) h;rw [sumI_zero] at this; exact this
theorem sumI_ge_len {f : α → Int} : ∀ {l : List α}, (∀ x ∈ l, 1 ≤ f x) → (l.length : Int) ≤ sumI f l
 | [], _ => by simp [sumI]
 | x :: r, h => by have h1 := h x (by simp); have h2 := sumI_ge_len (l := r) fun y hy => h y (by simp [hy]); simp only [sumI, List.length_cons]; omega
theorem sumI_le_len {f : α → Int} {c : Int} : ∀ {l : List α}, (∀ x ∈ l, f x ≤ c) → sumI f l ≤ c * (l.length : Int)
 | [], _ => by simp [sumI]
 | x :: r, h => by
  have h1 := h x (by simp); have h2 := sumI_le_len (c := c) (l := r) fun y hy => h y (by simp [hy])
  simp only [sumI, List.length_cons]; push_cast; rw [Int.mul_add, Int.mul_one]; omega
theorem sumI_mem {f : α → Int} : ∀ {l : List α} {x : α}, x ∈ l → (∀ y ∈ l, 0 ≤ f y) → f x ≤ sumI f l
 | y :: r, x, h, hn => by
  have h2 : 0 ≤ sumI f r := sumI_nn fun z hz => hn z (by simp [hz])
  have h0 := hn y (by simp);simp only [sumI]
  rcases List.mem_cons.1 h with rfl | h
  ·omega
  ·have := sumI_mem h fun z hz => hn z (by simp [hz]); omega
theorem sumI_perm {f : α → Int} {l r : List α} (h : l.Perm r) : sumI f l = sumI f r := by
 induction h with
 | nil => rfl
 | cons x _ ih => simp only [sumI, ih]
 | swap x y l => simp only [sumI]; omega
 | trans _ _ h1 h2 => exact h1.trans h2
theorem sumI_count [BEq α] [LawfulBEq α] (a : α) : ∀ l : List α, (l.count a : Int) = sumI (fun x => if x == a then 1 else 0) l
 | [] => rfl
 | x :: r => by
  rw [List.count_cons, sumI, ← sumI_count a r]
  by_cases h : (x == a) = true
  ·simp [h]; omega
  ·simp [h]
theorem perm_of_sums [BEq α] [LawfulBEq α] {l r : List α} (h : ∀ f : α → Int, sumI f l = sumI f r) : l.Perm r := by
 rw [List.perm_iff_count];intro a;have := h fun x => if x == a then 1 else 0
 rw [← sumI_count, ← sumI_count] at this
 omega
end
/-- What a node lets through. -/
def outM (gs : List PNode) (k : Nat) (v : Int) : List Int :=
 if (appSt (el gs k).2.1 (el gs k).2.2.1 (el gs k).2.2.2.1 v).2 = true then [v] else (appSt (el gs k).2.1 (el gs k).2.2.1 (el gs k).2.2.2.1 v).1
/-- The nodes' stages are good. -/
def GoodSts (gs : List PNode) : Prop := ∀ k, k < gs.length → goodSt (el gs k).2.1 (el gs k).2.2.1 (el gs k).2.2.2.1 = true
theorem outM_len {gs : List PNode} {k : Nat} (h : goodSt (el gs k).2.1 (el gs k).2.2.1 (el gs k).2.2.2.1 = true) (v : Int) : ((outM gs k v).length : Int) ≤ factI (el gs k).2.1 (el gs k).2.2.1 (el gs k).2.2.2.1 := by
 unfold outM factI
 rw [if_pos h]
 generalize (el gs k).2.1 = kd at *
 generalize (el gs k).2.2.1 = a at *
 generalize (el gs k).2.2.2.1 = b at *
 rcases good_kind h with rfl | rfl | rfl | rfl
 ·simp [appSt]
 ·rw [appSt2]; simp; split <;> simp
 ·have := good3 h;rw [appSt3]; simp [expI_len]; omega
 ·rw [appSt4]; split <;> simp
theorem fact_pos {k a b : Int} (h : goodSt k a b = true) : 1 ≤ factI k a b := by
 unfold factI
 rw [if_pos h]
 split
 ·next e => subst e; exact (good3 h).1
 ·omega
theorem outM_val {gs : List PNode} {k : Nat} (h : goodSt (el gs k).2.1 (el gs k).2.2.1 (el gs k).2.2.2.1 = true) {v : Int} (hv : valB v = true) : ∀ x ∈ outM gs k v, valB x = true := by
 intro x hx
 unfold outM at hx
 split at hx
 ·simp at hx; subst hx; exact hv
 ·exact appSt_val h hv x hx
/-- What comes of a value that comes out of a node. -/
def thenW (gs : List PNode) (φ : Nat → Int → Int) (ψ : Int × Int → Int) (k : Nat) (x : Int) : Int :=
 if (nxP gs k).length = 0 then ψ ((k : Int), x) else sumI (fun y => φ y.toNat x) (nxP gs k)
/-- A weight that does not grow along the graph. -/
def Falls (gs : List PNode) (φ : Nat → Int → Int) (ψ : Int × Int → Int) : Prop := ∀ k v, k < gs.length → sumI (thenW gs φ ψ k) (outM gs k v) ≤ φ k v
/-- An order of the nodes: each once, and none leads to one ahead of it. -/
structure Ordd (gs : List PNode) (R : List Int) : Prop where
 perm : R.Perm (numsI gs.length)
 fwd : R.Pairwise fun a b => a ∉ nxP gs b.toNat
 self : ∀ a ∈ R, a ∉ nxP gs a.toNat
theorem behindP_ord (gs : List PNode) : ∀ (n : Nat) (o l : List Int), (o.Pairwise fun a b => a ∉ nxP gs b.toNat) → (∀ a ∈ o, a ∉ nxP gs a.toNat) → (∀ a ∈ o, ∀ b ∈ l, a ∉ nxP gs b.toNat) →
  ((behindP gs n o l).1.Pairwise fun a b => a ∉ nxP gs b.toNat) ∧ ∀ a ∈ (behindP gs n o l).1, a ∉ nxP gs a.toNat
 | 0, o, l, h1, h2, _ => ⟨h1, h2⟩
 | n + 1, o, l, h1, h2, h3 => by
  rw [behindP]
  cases hp : l.findIdx? (fun b => !ledP gs l b) with
  | none => exact ⟨h1, h2⟩
  | some k =>
   rw [List.findIdx?_eq_some_iff_getElem] at hp;obtain ⟨hk, hb, _⟩ := hp;have hel : el l k = l[k] := el_at hk;have hno : ∀ b ∈ l, el l k ∉ nxP gs b.toNat := fun b hb' hm => by
    rw [← hel] at hb;simp only [ledP, Bool.not_eq_true', List.any_eq_false] at hb;have := hb b hb';simp only [leadsP, hasB, decide_eq_true_eq] at this;exact this hm
   have hkm : el l k ∈ l := el_mem hk;refine behindP_ord gs n _ _ ?_ ?_ ?_
   ·rw [List.pairwise_append];exact ⟨h1, by simp, fun _ ha b hb' => by simp at hb'; subst hb'; exact h3 _ ha _ hkm⟩
   ·intro a ha
    rcases List.mem_append.1 ha with ha | ha
    ·exact h2 a ha
    ·simp at ha; subst ha; exact hno _ hkm
   ·intro a ha b hb';have hb'' := cut_mem hb'
    rcases List.mem_append.1 ha with ha | ha
    ·exact h3 a ha b hb''
    ·simp at ha; subst ha; exact hno b hb''
theorem orderP_ordd {gs : List PNode} (h : ¬ (orderP gs).length < gs.length) : Ordd gs (orderP gs) := by
 have hp := behindP_perm gs gs.length [] (numsI gs.length);have hf := behindP_facts gs gs.length [] (numsI gs.length) (by rw [numsI_len]; exact Nat.le_refl _);have ho := behindP_ord gs gs.length [] (numsI gs.length) (by simp) (by simp) (by simp);have h2 : (behindP gs gs.length [] (numsI gs.length)).2 = [] := by
  have h1 := hf.1;rw [numsI_len] at h1
  unfold orderP at h
  exact List.length_eq_zero_iff.1 (by simp at h1; omega)
 rw [h2, List.append_nil, List.nil_append] at hp;exact ⟨hp, ho.1, ho.2⟩
section
variable {gs : List PNode} {R : List Int}
theorem Ordd.nodup (h : Ordd gs R) : R.Nodup := h.perm.nodup_iff.2 (inc_nodup (numsI_inc _))
theorem Ordd.rng (h : Ordd gs R) : ∀ a ∈ R, ∃ j : Nat, j < gs.length ∧ a = (j : Int) := fun _ ha => numsI_mem (h.perm.subset ha)
theorem Ordd.has (h : Ordd gs R) {k : Nat} (hk : k < gs.length) : (k : Int) ∈ R := h.perm.symm.subset (numsI_has hk)
theorem Ordd.len (h : Ordd gs R) : R.length = gs.length := by rw [h.perm.length_eq, numsI_len]
/-- What a node leads to lies behind it. -/
theorem Ordd.next (h : Ordd gs R) (hE : EdgesIn gs) {t k : Nat} (ht : t < R.length) (ek : el R t = (k : Int)) : ∀ y ∈ nxP gs k, y ∈ R.drop (t + 1) := by
 intro y hy;have hkm : (k : Int) ∈ R := by rw [← ek]; exact el_mem ht
 obtain ⟨k', hk', e⟩ := h.rng _ hkm;obtain rfl : k = k' := by omega
 obtain ⟨j, hj, rfl⟩ := hE.rng k hk' y hy;have hm := h.has hj;have hs : R = R.take t ++ el R t :: R.drop (t + 1) := by rw [el_at ht, List.getElem_cons_drop, List.take_append_drop]
 have hf := h.fwd;rw [hs, ek] at hm hf
 rcases List.mem_append.1 hm with hm | hm
 ·exfalso
  rw [List.pairwise_append] at hf;exact hf.2.2 _ hm (k : Int) (by simp) (by simpa using hy)
 ·rcases List.mem_cons.1 hm with hm | hm
  ·exfalso
   have := h.self _ hkm;simp only [Int.toNat_natCast] at this;rw [hm] at hy;exact this hy
  ·exact hm
end
end
section
open Go.RowKit

/-- What a value at a node means, by so many steps. -/
def meanN (gs : List PNode) : Nat → Nat → Int → List (Int × Int)
 | 0, _, _ => []
 | n + 1, k, v => (outM gs k v).flatMap fun x => if (nxP gs k).length = 0 then [((k : Int), x)] else (nxP gs k).flatMap fun y => meanN gs n y.toNat x
/-- What a value at a node means. -/
def meanG (gs : List PNode) (k : Nat) (v : Int) : List (Int × Int) := meanN gs gs.length k v
/-- How many stand at or behind it. -/
def rk (R : List Int) (k : Nat) : Nat := R.length - R.idxOf (k : Int)
section
variable {gs : List PNode} {R : List Int}
theorem Ordd.at (h : Ordd gs R) {k : Nat} (hk : k < gs.length) : R.idxOf (k : Int) < R.length ∧ el R (R.idxOf (k : Int)) = (k : Int) := by
 have hl : R.idxOf (k : Int) < R.length := List.idxOf_lt_length_of_mem (h.has hk);exact ⟨hl, by rw [el_at hl]; exact List.getElem_idxOf hl⟩
theorem idx_drop {l : List Int} (hn : l.Nodup) {t : Nat} {y : Int} (hy : y ∈ l.drop (t + 1)) : t < l.idxOf y := by
 obtain ⟨j, hj, e⟩ := List.getElem_of_mem hy;rw [List.length_drop] at hj;rw [List.getElem_drop] at e;have hlt : t + 1 + j < l.length := by omega
 have hm : y ∈ l := by rw [← e]; exact List.getElem_mem hlt
 have hi := List.idxOf_lt_length_of_mem hm;have e2 : l[l.idxOf y]'hi = l[t + 1 + j]'hlt := by rw [List.getElem_idxOf hi, e]
 rcases Nat.lt_or_ge t (l.idxOf y) with h | h
 ·exact h
 ·exact absurd e2 (List.pairwise_iff_getElem.1 hn _ _ hi hlt (by omega))
theorem Ordd.rk_next (h : Ordd gs R) (hE : EdgesIn gs) {k : Nat} (hk : k < gs.length) : ∀ y ∈ nxP gs k, ∃ j : Nat, j < gs.length ∧ y = (j : Int) ∧ rk R j < rk R k := by
 intro y hy;obtain ⟨j, hj, rfl⟩ := hE.rng k hk y hy;refine ⟨j, hj, rfl, ?_⟩;have ha := h.at hk;have hn := idx_drop h.nodup (h.next hE ha.1 ha.2 _ hy);have hb := h.at hj
 unfold rk
 omega
theorem Ordd.rk_le (h : Ordd gs R) (k : Nat) : rk R k ≤ gs.length := by have := h.len; unfold rk; omega
theorem Ordd.rk_pos (h : Ordd gs R) {k : Nat} (hk : k < gs.length) : 1 ≤ rk R k := by have := (h.at hk).1; unfold rk; omega
theorem flatMap_congr' {α β : Type} {f g : α → List β} : ∀ {l : List α}, (∀ x ∈ l, f x = g x) → l.flatMap f = l.flatMap g
 | [], _ => rfl
 | x :: r, h => by rw [List.flatMap_cons, List.flatMap_cons, h x (by simp), flatMap_congr' (l := r) fun y hy => h y (by simp [hy])]
theorem meanN_same (h : Ordd gs R) (hE : EdgesIn gs) : ∀ (n m k : Nat) (v : Int), k < gs.length → rk R k ≤ n → rk R k ≤ m → meanN gs n k v = meanN gs m k v
 | 0, _, k, _, hk, hn, _ => by have := h.rk_pos hk; omega
 | _ + 1, 0, k, _, hk, _, hm => by have := h.rk_pos hk; omega
 | n + 1, m + 1, k, v, hk, hn, hm => by
  rw [meanN, meanN];refine flatMap_congr' fun x _ => ?_
  split
  ·rfl
  ·refine flatMap_congr' fun y hy => ?_
   obtain ⟨j, hj, rfl, hr⟩ := h.rk_next hE hk y hy;rw [Int.toNat_natCast];exact meanN_same h hE n m j x hj (by omega) (by omega)
theorem meanG_eq (h : Ordd gs R) (hE : EdgesIn gs) {k : Nat} (hk : k < gs.length) (v : Int) :
  meanG gs k v = (outM gs k v).flatMap fun x => if (nxP gs k).length = 0 then [((k : Int), x)] else (nxP gs k).flatMap fun y => meanG gs y.toNat x := by
 obtain ⟨n, hn⟩ : ∃ n, gs.length = n + 1 := ⟨gs.length - 1, by omega⟩;have h1 : meanG gs k v = meanN gs (n + 1) k v := by rw [meanG, hn]
 rw [h1, meanN];refine flatMap_congr' fun x _ => ?_
 split
 ·rfl
 ·refine flatMap_congr' fun y hy => ?_
  obtain ⟨j, hj, rfl, hr⟩ := h.rk_next hE hk y hy;have := h.rk_le k;rw [Int.toNat_natCast, meanG];exact meanN_same h hE n gs.length j x hj (by omega) (h.rk_le j)
/-- A weight of what is emitted, as a weight of values at nodes. -/
theorem mean_weight (h : Ordd gs R) (hE : EdgesIn gs) (ψ : Int × Int → Int) {k : Nat} (hk : k < gs.length) (v : Int) :
  sumI ψ (meanG gs k v) = sumI (thenW gs (fun j x => sumI ψ (meanG gs j x)) ψ k) (outM gs k v) := by
 rw [meanG_eq h hE hk, sumI_flat];refine sumI_congr fun x _ => ?_
 unfold thenW
 split
 ·exact sumI_one _ _
 ·rw [sumI_flat]
/-- How wide a node may be. -/
def wdP (gs : List PNode) (R : List Int) (k : Nat) : Int := el (wdAt gs R.reverse R.length) k
theorem sumW_sumI (wd : List Int) : ∀ nx : List Int, sumW wd nx = sumI (fun y => el wd y.toNat) nx
 | [] => rfl
 | x :: r => by
  have := sumW_sumI wd r;simp only [sumW, List.map_cons, List.sum_cons, sumI] at this ⊢;rw [this]
theorem Ordd.nx_take (h : Ordd gs R) (hE : EdgesIn gs) {t k : Nat} (ht : t < R.reverse.length) (ek : el R.reverse t = (k : Int)) : ∀ y ∈ nxP gs k, y ∈ R.reverse.take t := by
 intro y hy;have htl : t < R.length := by rw [List.length_reverse] at ht; exact ht
 rw [el_reverse htl] at ek;have := h.next hE (t := R.length - 1 - t) (by omega) ek y hy;rw [List.take_reverse, List.mem_reverse, show R.length - t = R.length - 1 - t + 1 by omega];exact this
theorem wNew_congr {wd wd' : List Int} {k : Nat} (h : ∀ y ∈ nxP gs k, el wd y.toNat = el wd' y.toNat) : wNew gs wd k = wNew gs wd' k := by
 unfold wNew
 rw [sumW_sumI, sumW_sumI, sumI_congr h]
theorem wd_done (h : Ordd gs R) (hE : EdgesIn gs) : ∀ t, t ≤ R.reverse.length → ∀ k : Nat, k < gs.length → (k : Int) ∈ R.reverse.take t → el (wdAt gs R.reverse t) k = wNew gs (wdAt gs R.reverse t) k
 | 0, _, k, _, hm => by simp at hm
 | t + 1, ht, k, hk, hm => by
  have hlt : t < R.reverse.length := by omega
  obtain ⟨j, hj, ej⟩ : ∃ j : Nat, j < gs.length ∧ el R.reverse t = (j : Int) := h.rng _ (List.mem_reverse.1 (el_mem hlt));have hnd : R.reverse.Nodup := by
   have := h.nodup;rw [List.Nodup, List.pairwise_reverse]; exact List.Pairwise.imp Ne.symm this
  have hout := nodup_take hlt hnd;rw [ej] at hout;have hset : ∀ x : Nat, el (wdAt gs R.reverse (t + 1)) x = if x = j then wNew gs (wdAt gs R.reverse t) j else el (wdAt gs R.reverse t) x := fun x => by
   rw [wdAt, ej, Int.toNat_natCast, el_setI (by rw [wdAt_len]; exact hj)]
  have hsame : ∀ i : Nat, i < gs.length → (∀ y ∈ nxP gs i, y ∈ R.reverse.take t) → wNew gs (wdAt gs R.reverse (t + 1)) i = wNew gs (wdAt gs R.reverse t) i := fun i hi hn => by
   refine wNew_congr fun y hy => ?_
   obtain ⟨b, hb, rfl⟩ := hE.rng i hi y hy;rw [Int.toNat_natCast, hset, if_neg];intro e;subst e;exact hout (hn _ hy)
  have hcl := h.nx_take hE hlt ej;rw [take_succ_el hlt, ej] at hm
  by_cases e : k = j
  ·subst e;rw [hset, if_pos rfl, hsame k hk hcl]
  ·have hm2 : (k : Int) ∈ R.reverse.take t := by
    rcases List.mem_append.1 hm with hm | hm
    ·exact hm
    ·rw [List.mem_singleton] at hm; omega
   have ih := wd_done h hE t (by omega) k hk hm2;rw [hset, if_neg e, ih, hsame k hk];intro y hy;obtain ⟨i, hi, ei⟩ := mem_el hm2;rw [List.length_take] at hi;have hit : i < t := by omega
   have eit : el R.reverse i = (k : Int) := by rw [← ei]; exact (el_take hit).symm
   have := h.nx_take hE (t := i) (by omega) eit y hy;have hsub : R.reverse.take i = (R.reverse.take t).take i := by rw [List.take_take, Nat.min_eq_left (by omega)]
   rw [hsub] at this;exact List.mem_of_mem_take this
theorem wdP_eq (h : Ordd gs R) (hE : EdgesIn gs) {k : Nat} (hk : k < gs.length) : wdP gs R k = factI (el gs k).2.1 (el gs k).2.2.1 (el gs k).2.2.2.1 * (if (nxP gs k).length = 0 then 1 else sumI (fun y => wdP gs R y.toNat) (nxP gs k)) := by
 have hl : R.reverse.length = R.length := List.length_reverse;have := wd_done h hE R.reverse.length (Nat.le_refl _) k hk (by rw [List.take_length, List.mem_reverse]; exact h.has hk);rw [hl] at this;rw [wdP, this, wNew, sumW_sumI]; rfl
theorem wdP_pos (h : Ordd gs R) (hE : EdgesIn gs) (hS : GoodSts gs) : ∀ (n k : Nat), k < gs.length → rk R k ≤ n → 1 ≤ wdP gs R k
 | 0, k, hk, hn => by have := h.rk_pos hk; omega
 | n + 1, k, hk, hn => by
  have hf := fact_pos (hS k hk);rw [wdP_eq h hE hk];have hz : 1 ≤ (if (nxP gs k).length = 0 then 1 else sumI (fun y => wdP gs R y.toNat) (nxP gs k)) := by
   split
   ·omega
   ·next hne =>
    have hge := sumI_ge_len (f := fun y : Int => wdP gs R y.toNat) (l := nxP gs k) fun y hy => by
     obtain ⟨j, hj, rfl, hr⟩ := h.rk_next hE hk y hy;rw [Int.toNat_natCast];exact wdP_pos h hE hS n j hj (by omega)
    omega
  have := Int.mul_le_mul_of_nonneg_left hz (show 0 ≤ factI (el gs k).2.1 (el gs k).2.2.1 (el gs k).2.2.2.1 by omega)
  omega
theorem wdP_one (h : Ordd gs R) (hE : EdgesIn gs) (hS : GoodSts gs) {k : Nat} (hk : k < gs.length) : 1 ≤ wdP gs R k := wdP_pos h hE hS _ k hk (Nat.le_refl _)
/-- The widths do not grow along the graph. -/
theorem wdP_falls (h : Ordd gs R) (hE : EdgesIn gs) (hS : GoodSts gs) : Falls gs (fun k _ => wdP gs R k) fun _ => 1 := by
 intro k v hk;have hle := outM_len (hS k hk) v;have hc : ∀ x, thenW gs (fun k _ => wdP gs R k) (fun _ => 1) k x = (if (nxP gs k).length = 0 then 1 else sumI (fun y => wdP gs R y.toNat) (nxP gs k)) := fun x => by unfold thenW; split <;> rfl
 have hz : 0 ≤ (if (nxP gs k).length = 0 then 1 else sumI (fun y => wdP gs R y.toNat) (nxP gs k)) := by
  split
  ·omega
  ·refine sumI_nn fun y hy => ?_
   obtain ⟨j, hj, rfl, _⟩ := h.rk_next hE hk y hy;have := wdP_one h hE hS hj;rw [Int.toNat_natCast]; omega
 show _ ≤ wdP gs R k
 rw [sumI_congr (fun x _ => hc x), wdP_eq h hE hk];refine Int.le_trans (sumI_le_len (c := (if (nxP gs k).length = 0 then 1 else sumI (fun y => wdP gs R y.toNat) (nxP gs k))) fun _ _ => Int.le_refl _) ?_;rw [Int.mul_comm];exact Int.mul_le_mul_of_nonneg_right hle hz
theorem maxL_ge : ∀ {l : List Int} {k : Nat}, k < l.length → el l k ≤ maxL l
 | [], _, h => by simp at h
 | x :: r, 0, _ => by rw [el_zero, maxL]; omega
 | x :: r, k + 1, h => by
  have := maxL_ge (l := r) (k := k) (by simpa using h);rw [el_cons, maxL]; omega
end
theorem wdP_le {gs : List PNode} {k : Nat} (hk : k < gs.length) : wdP gs (orderP gs) k ≤ widP gs := maxL_ge (by rw [wdAt_len]; exact hk)
/-- A value means no more than its node is wide. -/
theorem mean_len {gs : List PNode} {R : List Int} (h : Ordd gs R) (hE : EdgesIn gs) (hS : GoodSts gs) : ∀ (n k : Nat) (v : Int), k < gs.length → rk R k ≤ n → ((meanG gs k v).length : Int) ≤ wdP gs R k
 | 0, k, _, hk, hn => by have := h.rk_pos hk; omega
 | n + 1, k, v, hk, hn => by
  have hf := wdP_falls h hE hS k v hk;refine Int.le_trans ?_ hf;have e : ((meanG gs k v).length : Int) = sumI (fun _ => 1) (meanG gs k v) := by
   have : ∀ l : List (Int × Int), (l.length : Int) = sumI (fun _ => 1) l := fun l => by
    induction l with
    | nil => rfl
    | cons x r ih => simp only [List.length_cons, sumI]; omega
   exact this _
  rw [e, mean_weight h hE _ hk];refine sumI_le fun x _ => ?_
  unfold thenW
  split
  ·exact Int.le_refl _
  ·refine sumI_le fun y hy => ?_
   obtain ⟨j, hj, rfl, hr⟩ := h.rk_next hE hk y hy;rw [Int.toNat_natCast];have ih := mean_len h hE hS n j x hj (by omega);have e2 : sumI (fun _ : Int × Int => 1) (meanG gs j x) = ((meanG gs j x).length : Int) := by
    have : ∀ l : List (Int × Int), sumI (fun _ => 1) l = (l.length : Int) := fun l => by
     induction l with
     | nil => rfl
     | cons x r ih => simp only [List.length_cons, sumI]; omega
    exact this _
   show sumI (fun _ : Int × Int => 1) (meanG gs j x) ≤ wdP gs R j
   rw [e2]; exact ih
end
end Go.Proofs.YtllmpinmbajpgaaGreatDoor
