
/- How many live behind moves: both sides. No conditions but those written. The account of an item: the specification. No conditions but those written. The walk of the law of AccountOf: it returns true. No conditions but those written. The walk of the law of accounts: it returns true. No conditions but those written. -/
import Derived.Test.YtllmpinmbajpgaaGreatDoorPMnHs
import Derived.Test.YtllmpinmbajpgaaGreatDoorPDppMf
import Derived.Test.YtllmpinmbajpgaaGreatDoorPSpiRna
import Derived.Test.YtllmpinmbajpgaaGreatDoorPAvbSpc
import Derived.Test.YtllmpinmbajpgaaGreatDoorPEoMo
import Derived.Test.YtllmpinmbajpgaaGreatDoorPCvaMi
import Derived.Test.YtllmpinmbajpgaaGreatDoorPRnbMvk
namespace Go.Proofs.YtllmpinmbajpgaaGreatDoor
section
open Go.RowKit

/-- How many tokens live behind moves. -/
def liveR (gs : List PNode) (ms : List (Int × Int × Int)) : Int × Bool := if pipeB gs = true ∧ ms.length ≤ 300 then ((totT (playP gs (srcP gs gs.length) ms (pp0 gs.length)).2.bx : Int), true) else (0, false)
def AnsLv (w : World) (x : Int × Bool) (e : Ending) (w' : World) : Prop := e = .returned (.tuple #[.int .i64 x.1, .bool x.2]) ∧ Below w.heap.size w w'
set_option maxHeartbeats 2000000 in
theorem implLive_any (ao : Option Addr) (cap : Nat) (ts : List LNode) (ea : Nat → Addr) (mo : Option Addr) (mc : Nat) (ms : List (Int × Int × Int)) (w : World) (hC : Roomy ts cap) (hE : Errs w ea) (hz : DIn dNode w.heap.size w ao ts) (hM : kMv.In w.heap.size w mo ms) (h64 : ∀ k, k < ms.length → (el ms k).1 ≤ 9223372036854775807) :
  Calls Tryz.prog 11 #[.slice ao ts.length cap, .slice mo ms.length mc] w (AnsLv w (liveR (ts.map valNode) ms)) := by
 have HP := hid (played_any ao cap ts ea mo mc ms w hC hE hz hM h64);clear hC hE hz hM h64
 by_cases hok : pipeB (ts.map valNode) = true ∧ ms.length ≤ 300
 ·have HR : Hid (liveR (ts.map valNode) ms = ((totT (playP (ts.map valNode) (srcP (ts.map valNode) ts.length) ms (pp0 ts.length)).2.bx : Int), true)) := by rw [Hid, liveR, if_pos hok, val_len]
  go_enter Tryz.func11, Tryz.ntmps11;go_wp2_with fail;refine HP.out.mono ?_;rintro e w1 ⟨hq, hb1⟩;rw [if_pos hok] at hq;obtain ⟨lo, p, bb, so, sc, xs, ev, fv, uv, v, rfl, hlo, hI, F, hO, hA⟩ := hq;have c9 := F.box.c 9 rfl;have HB1 := hid hb1;clear hb1 hI F hO hA HP hok
  generalize (totT (playP (ts.map valNode) (srcP (ts.map valNode) ts.length) ms (pp0 ts.length)).2.bx : Int) = x at c9 HR
  go_wp2_with fail;refine (load_any p 9 x w1 c9).mono ?_;rintro e w2 ⟨rfl, hw2⟩;rw [hw2];clear hw2 w2 c9;go_wp2;refine bodyPost_ret (v := .tuple #[.int .i64 x, .bool true]) (by simp [results, Tryz.results11, go_sem]) rfl ?_;rw [HR.out];exact ⟨rfl, HB1.out⟩
 ·have HR : Hid (liveR (ts.map valNode) ms = (0, false)) := by rw [Hid, liveR, if_neg hok]
  go_enter Tryz.func11, Tryz.ntmps11;go_wp2_with fail;refine HP.out.mono ?_;rintro e w1 ⟨hq, hb1⟩;rw [if_neg hok] at hq;obtain rfl := hq;go_wp2;refine bodyPost_ret (v := .tuple #[.int .i64 0, .bool false]) (by simp [results, Tryz.results11, go_sem]) rfl ?_;rw [HR.out];exact ⟨rfl, hb1⟩
end
section
open Go.RowKit
end
section
open Go.RowKit

theorem accR_len (gs : List PNode) (ms : List (Int × Int × Int)) (item : Int) : (accR gs ms item).1.length ≤ 400 := by
 unfold accR
 split
 ·unfold sortR
  split
  ·simp
  ·rw [sortE_len]; omega
 ·simp
end
section
open Go.RowKit

set_option maxRecDepth 100000 in
set_option maxHeartbeats 32000000 in
theorem lawAccounted_any (co : Option Addr) (cap : Nat) (bs : List Int) (ea : Nat → Addr) (w : World) (hl : bs.length ≤ 9223372036854775807) (hb : BytesIn w.heap.size w co bs) (hE : Errs w ea) :
  Calls Tryz.prog 3 #[.slice co bs.length cap] w fun e w' => e = .returned (.bool true) ∧ Below w.heap.size w w' := by
 by_cases hbig : 1048576 < bs.length
 ·have hbig' : decide ((1048576 : Int) < (bs.length : Int)) = true := by simp; omega
  clear hbig;go_enter Tryz.func3, Tryz.ntmps3;go_wp2;go_ret;exact ⟨rfl, Below.refl _ _⟩
 have hbig' : decide ((1048576 : Int) < (bs.length : Int)) = false := by simp; omega
 have HE := hid hE;clear hbig hE;go_enter Tryz.func3, Tryz.ntmps3;go_wp2_with fail;refine (drawPlay_any co cap bs w hl hb).mono ?_;rintro e w1 ⟨⟨o, c, us, mo, mc, ms, rfl, hS, hD, hM, hml, h64⟩, hb1⟩;have hB1 : Below w.heap.size w w1 := hb1;have D1 := hid hD;have M1 := hid hM;have H64 := hid h64;have hul : us.length ≤ 11 := hS.1;have RM := hid (hD.roomy (by omega) fun a ha => by have := hS.2 a ha; omega);obtain ⟨⟨s, cs, y⟩, hq⟩ : ∃ Q, ppR (us.map valNode) ms = Q := ⟨_, rfl⟩;have HQ := hid hq;have hcl : cs.length ≤ 1048576 := by have := (ppR_small (us.map valNode) ms).c; rw [hq] at this; exact this
 have hyy : (y != y) = false := by simp
 clear hb1 hD hM hS hq h64;(try dsimp only);have hcon := implPipe_any o c us ea mo mc ms w1 RM.out (HE.out.later hB1) D1.out.in M1.out H64.out;rw [HQ.out] at hcon
 (try dsimp only at hcon)
 go_wp2_with fail;refine hcon.mono ?_;rintro e w2' ⟨⟨bo, bc, eo, ec, fo, fc, uo, uc, o2, c2, rfl, hP2, hC2, _⟩, hb20⟩;obtain ⟨w2, h2⟩ : ∃ q, q = w2'.alloc (.cells #[.int .i64 s.ti, .int .i64 s.it, .bool s.cl, .slice bo s.bx.length bc, .slice eo s.em.length ec, .slice fo s.fa.length fc, .slice uo s.fu.length uc] 32) := ⟨_, rfl⟩;have hb2a : Below w2'.heap.size w2' w2 := by rw [h2]; exact below1 _ _
 have KP2 : Hid (Bx w2 w2'.heap.size [.int .i64 s.ti, .int .i64 s.it, .bool s.cl, .slice bo s.bx.length bc, .slice eo s.em.length ec, .slice fo s.fa.length fc, .slice uo s.fu.length uc]) := by rw [Hid, h2]; exact Bx.new (w := w2') [.int .i64 s.ti, .int .i64 s.it, .bool s.cl, .slice bo s.bx.length bc, .slice eo s.em.length ec, .slice fo s.fa.length fc, .slice uo s.fu.length uc] 32 rfl
 have H2 := hid h2;have hb2 := hb20.trans (hb2a.mono hb20.size);have C2 := hid (hC2.later hb2a);clear hb20 hb2a h2 hcon hP2 hC2;have hB2 := hB1.trans (hb2.mono hB1.size);have D2 := hid (D1.out.later hb2);have M2 := hid (M1.out.later hb2);clear D1 M1 hb2;have hcon := specPipe_any o c us mo mc ms w2 RM.out D2.out.in M2.out H64.out;rw [HQ.out] at hcon
 (try dsimp only at hcon)
 (try dsimp only);go_wp2_with fail;rw [← H2.out];refine hcon.mono ?_;rintro e w3' ⟨⟨bo3, bc3, eo3, ec3, fo3, fc3, uo3, uc3, o3, c3, rfl, _, hC3, _⟩, hb30⟩;obtain ⟨w3, h3⟩ : ∃ q, q = w3'.alloc (.cells #[.int .i64 s.ti, .int .i64 s.it, .bool s.cl, .slice bo3 s.bx.length bc3, .slice eo3 s.em.length ec3, .slice fo3 s.fa.length fc3, .slice uo3 s.fu.length uc3] 32) := ⟨_, rfl⟩;have hb3a : Below w3'.heap.size w3' w3 := by rw [h3]; exact below1 _ _
 have H3 := hid h3;have hb3 := hb30.trans (hb3a.mono hb30.size);have S3 := hid (hC3.later hb3a);clear hcon hC3 hb30 hb3a h3;have hB3 := hB2.trans (hb3.mono hB2.size);have D3 := hid (D2.out.later hb3);have M3 := hid (M2.out.later hb3);have C3 := hid (C2.out.later hb3);have KP3 := hid (KP2.out.later hb3);clear D2 M2 C2 KP2 hb3;(try dsimp only);go_wp2_with fail;rw [← H3.out];refine (sameInts_same o2 o3 c2 c3 cs w3 hcl C3.out.in S3.out.in).mono ?_;rintro e w4 ⟨rfl, hb4⟩;clear S3 C3;have hB4 := hB3.trans (hb4.mono hB3.size);have D4 := hid (D3.out.later hb4);have M4 := hid (M3.out.later hb4);have KP4 := hid (KP3.out.later hb4);clear D3 M3 KP3 hb4
 cases y with
 | false =>
  go_wp2;go_ret;exact ⟨rfl, hB4⟩
 | true =>
  have hok : pipeB (us.map valNode) = true ∧ ms.length ≤ 300 := Decidable.byContradiction fun hn => by have := HQ.out; rw [ppR, if_neg hn] at this; simp at this
  have HAC := hid (acct_of hok);have hss : s = (playP (us.map valNode) (srcP (us.map valNode) (us.map valNode).length) ms (pp0 (us.map valNode).length)).2 := by have := HQ.out; rw [ppR, if_pos hok] at this; exact (congrArg Prod.fst this).symm
  obtain ⟨⟨L, yL⟩, hL⟩ : ∃ Q, offR (us.map valNode) ms = Q := ⟨_, rfl⟩;have hyL : yL = true := by have := HAC.out.ok; rw [hL] at this; exact this
  subst hyL;have hLl : (L.length : Int) = s.it := by have := HAC.out.len; rw [hL] at this; rw [hss]; exact this
  have hLm : L.length ≤ 1048576 := by have := offR_len (us.map valNode) ms; rw [hL] at this; dsimp only at this; omega
  have hacc := HAC.out.acc;rw [hL] at hacc;have HACC := hid hacc;have hplay := played_of hok;rw [← hss] at hplay;have hlr := live_room hplay.inv.cap hplay.len;obtain ⟨room, hrm⟩ : ∃ q, q = capSum (us.map valNode) (us.map valNode).length := ⟨_, rfl⟩;obtain ⟨lv, hlv⟩ : ∃ q, q = (totT s.bx : Int) := ⟨_, rfl⟩;have hroom : roomR (us.map valNode) = (room, true) := by rw [hrm, roomR, if_pos (by have := hok.1; simp [pipeB] at this; exact this.1)]
  have hlive : liveR (us.map valNode) ms = (lv, true) := by rw [hlv, liveR, if_pos hok, hss]
  have hgt : decide (room < lv) = false := decide_eq_false (by rw [hrm, hlv]; omega);have hne : ((L.length : Int) != s.it) = false := by rw [hLl]; simp
  clear hrm hlv hlr hss hLl;have HOKK := hid hok;have HCON1 := hid hroom;have HCON2 := hid hlive;have HL := hid hL;clear hacc hplay hroom hlive hok HAC hL;have hcon := implOff_any o c us ea mo mc ms w4 RM.out (HE.out.later hB4) D4.out.in M4.out H64.out;rw [HL.out] at hcon
  (try dsimp only at hcon)
  (try dsimp only);go_wp2_with fail;refine hcon.mono ?_;rintro e w5 ⟨⟨o5, c5, rfl, hF5⟩, hb5⟩;have L5 := hid hF5.in;clear hcon hF5;have hB5 := hB4.trans (hb5.mono hB4.size);have D5 := hid (D4.out.later hb5);have M5 := hid (M4.out.later hb5);have KP5 := hid (KP4.out.later hb5);clear D4 M4 KP4 hb5

  have hcon := implRoom_is o c us ea w5 RM.out (HE.out.later hB5) D5.out.in;rw [HCON1.out] at hcon
  (try dsimp only at hcon)
  go_wp2_with fail;refine hcon.mono ?_;rintro e w6 ⟨rfl, hb6⟩;clear hcon;have hB6 := hB5.trans (hb6.mono hB5.size);have D6 := hid (D5.out.later hb6);have M6 := hid (M5.out.later hb6);have KP6 := hid (KP5.out.later hb6);have L6 := hid (L5.out.later hb6);clear D5 M5 KP5 L5 hb6

  have hcon := implLive_any o c us ea mo mc ms w6 RM.out (HE.out.later hB6) D6.out.in M6.out H64.out;rw [HCON2.out] at hcon
  unfold AnsLv at hcon
  (try dsimp only at hcon)
  go_wp2_with fail;refine hcon.mono ?_;rintro e w7 ⟨rfl, hb7⟩;clear hcon;have hB7 := hB6.trans (hb7.mono hB6.size);have D7 := hid (D6.out.later hb7);have M7 := hid (M6.out.later hb7);have KP7 := hid (KP6.out.later hb7);have L7 := hid (L6.out.later hb7);clear D6 M6 KP6 L6 hb7

  have k1 := KP7.out.c 1 rfl;go_wp2
  go_loopw [93] (fun i wr => ∃ t : Nat, i = .int .i64 (t : Int) ∧ t ≤ L.length ∧ Hid (Below w7.heap.size w7 wr)) (fun i _ => L.length - (intOf i).toNat)
  case atStart => exact ⟨0, rfl, Nat.zero_le _, Below.refl _ _⟩
  case round =>
   obtain ⟨i, rfl, hi, hBr⟩ := hrel;have hBw := hB7.trans (hBr.out.mono hB7.size)
   by_cases hlt : i < L.length
   ·have hii : (i : Int) < (L.length : Int) := by omega
    obtain ⟨b, off, rfl, hb8, hc8⟩ := kMv_at L7.out hlt;obtain ⟨d0, d1, d2⟩ := hc8 i hlt;have e0 := (hBr.out.cell (p := ⟨b, off + i * 3, none⟩) hb8).trans d0;have e1 := (hBr.out.cell (p := ⟨b, off + i * 3 + 1, none⟩) hb8).trans d1;have e2 := (hBr.out.cell (p := ⟨b, off + i * 3 + 2, none⟩) hb8).trans d2;have HA := HACC.out i hlt;obtain ⟨⟨m1, m2, m3⟩, em⟩ : ∃ t, t = el L i := ⟨_, rfl⟩;rw [← em] at e0 e1 e2 HA;dsimp only at e0 e1 e2 HA;obtain ⟨⟨Al, ya⟩, hAl⟩ : ∃ Q, accR (us.map valNode) ms (i : Int) = Q := ⟨_, rfl⟩;rw [hAl] at HA;obtain ⟨hAe, rfl⟩ : (Al, ya) = meanR (us.map valNode) m2 m3 ∧ ya = true := HA;have hAlen : Al.length ≤ 1048576 := by have := accR_len (us.map valNode) ms (i : Int); rw [hAl] at this; dsimp only at this; omega
    have HAL := hid hAl;have HME := hid hAe.symm;clear em hc8 d0 d1 d2 hAl hAe
    -- the move is laid in a cell of its own (slot 18), ahead of the calls
    obtain ⟨w8, h8⟩ : ∃ q, q = wr.alloc (.cells #[.int .i64 m1, .int .i64 m2, .int .i64 m3] 42) := ⟨_, rfl⟩;have hb8a : Below wr.heap.size wr w8 := by rw [h8]; exact below1 _ _
    have K8 : Hid (Bx w8 wr.heap.size [.int .i64 m1, .int .i64 m2, .int .i64 m3]) := by rw [Hid, h8]; exact Bx.new (w := wr) [.int .i64 m1, .int .i64 m2, .int .i64 m3] 42 rfl
    have H8 := hid h8;have B78 := hid (hBr.out.trans (hb8a.mono hBr.out.size));have hB8 := hBw.trans (hb8a.mono hBw.size);have hcon := implAcc_any o c us ea mo mc ms (i : Int) w8 RM.out (HE.out.later hB8) (D7.out.later B78.out).in (M7.out.later B78.out) H64.out;rw [HAL.out] at hcon
    unfold AnsEB at hcon
    (try dsimp only at hcon)
    clear hb8a h8;go_wp2_with fail;rw [← H8.out];refine hcon.mono ?_;rintro e w9 ⟨⟨o9, c9, rfl, hF9⟩, hb9⟩;have hB9 := hB8.trans (hb9.mono hB8.size);have B79 := hid (B78.out.trans (hb9.mono B78.out.size));have K9 := K8.out.later hb9;have f1 := K9.c 1 rfl;have f2 := K9.c 2 rfl;have A9 := hid hF9.in;have hcon := implMean_is o c us m2 m3 ea w9 RM.out (HE.out.later hB9) (D7.out.later B79.out).in;rw [HME.out] at hcon
    unfold AnsEB at hcon
    (try dsimp only at hcon)
    clear hF9 hb9;go_wp2_with fail;refine hcon.mono ?_;rintro e w10 ⟨⟨o10, c10, rfl, hF10⟩, hb10⟩;have hB10 := hB9.trans (hb10.mono hB9.size);have B710 := hid (B79.out.trans (hb10.mono B79.out.size));have A10 := hid (A9.out.later hb10);have Z10 := hid hF10.in;clear hF10 hb10 hcon f1 f2 K9;go_wp2_with fail;refine (sameEmits_same o9 o10 c9 c10 Al w10 hAlen A10.out Z10.out).mono ?_;rintro e w11 ⟨rfl, hb11⟩;have B711 := hid (B710.out.trans (hb11.mono B710.out.size));clear hb11;go_wp2;go_roundw
    case rel => exact ⟨i + 1, by go_num, by omega, B711⟩
    case measure => simp [intOf]; omega
   ·obtain rfl : i = L.length := by omega
    go_wp2;go_ret;exact ⟨rfl, hBw⟩
end
end Go.Proofs.YtllmpinmbajpgaaGreatDoor
