
/- A node added by a line: the specification. No conditions but those written. What a script of the specification does with a command: moves and what is told, in one. No conditions but those written. A line of the specification's script. No conditions but those written. A line of the specification's script, whatever it has come to; a script run. No conditions but those written. The graph of a script's text: the program. No conditions but those written. -/
import Derived.Test.YtdacedbfnlkghaaGreatDoorPTpj
import Derived.Test.YtdacedbfnlkghaaGreatDoorPSsaSkt
import Derived.Test.YtdacedbfnlkghaaGreatDoorPSpsSsb
import Derived.Test.YtdacedbfnlkghaaGreatDoorPSsc
import Derived.Test.YtdacedbfnlkghaaGreatDoorPSsdTpi
import Derived.Test.YtdacedbfnlkghaaGreatDoorPTpbTpe
import Derived.Test.YtdacedbfnlkghaaGreatDoorPTpfRy
namespace Go.Proofs.YtdacedbfnlkghaaGreatDoor
section
open Go.RowKit

/-- What a line that adds a node answers. -/
def AnsAq (q : Nat) (W : World) (_o : Option Addr) (us : List LNode) (line : ByteArray) (e : Ending) (W' : World) : Prop := e = .returned (.string (if (readR line).2 = true ∧ us.length ≠ 10 then okT else noT)) ∧ (∃ o' c' us' hi', QA q W' o' c' us' hi' ∧ us'.map valNode = (if (readR line).2 = true ∧ us.length ≠ 10 then us.map valNode ++ [pnode (readR line).1] else us.map valNode) ∧ Below q W W')
set_option maxRecDepth 100000 in
set_option maxHeartbeats 8000000 in
theorem lineS_add (q : Nat) (W : World) (o : Option Addr) (c : Nat) (us : List LNode) (hi : Nat) (line : ByteArray) (ws : List ByteArray) (hws : ws = splitB line 32) (h : QA q W o c us hi) (hs : line.size ≤ 3000) (hw0 : el ws 0 = nodeW) :
  Calls Tryz.prog 86 #[.pointer (some ⟨q, 0, none⟩), .string line] W (AnsAq q W o us line) := by
 have HP : Hid (Calls Tryz.prog 85 #[.string line, .int .u8 32] W (AnsS W ws)) := by rw [Hid, hws]; exact l13Split_is line 32 W (by omega)
 have HSh : Hid (ShortT ws) := by rw [Hid, hws]; exact splitB_short 32 (by omega)
 have hL : ws.length ≤ line.size + 1 := by rw [hws]; exact splitB_len line 32
 have hpos : 0 < ws.length := by rw [hws]; exact splitB_pos line 32
 have H := hid h;have HQ := hid (Nat.le_of_lt h.box.size);clear hws h;go_enter Tryz.func86, Tryz.ntmps86;go_wp2_with fail;refine HP.out.mono ?_;rintro e w0 ⟨⟨go, qc, rfl, hno, hF⟩, hb0⟩;obtain ⟨g, rfl, hg1, hg2, hg3, _⟩ := hF.at hpos;have hcap := hF.cap;have hI := hid hF.in;have d0 := texts_c hI.out 0 hpos;have HH := hid (H.out.later hb0);have HB0 := hid (hb0.mono HQ.out);have HQS : Hid (q < W.heap.size) := H.out.box.size;obtain ⟨x, hx⟩ : ∃ x, x = el ws 0 := ⟨_, rfl⟩;rw [← hx] at d0;have hgz : g < w0.heap.size := by omega
 have hpi : (0 : Int) < (ws.length : Int) := by omega
 have HHB := hid hb0.size;clear hF hno hb0 hg2 hg3 HP H;have b2 := HH.out.box.c 2 rfl;have b2z := HH.out.box.size;have hn0 : x = nodeW := by rw [hx]; exact hw0
 have f0 : (x.toList == [110, 111, 100, 101]) = true := by rw [hn0, show nodeW.toList = [110, 111, 100, 101] from by rw [nodeW, Lib.toList_data]]; rfl
 clear hx hw0 hn0;have HRN := hid (specReadNode_is line w0 (by omega));have HF := hid (readR_fit (s := line) hs);clear hs;obtain ⟨⟨⟨nm, kd, sa, sb, cp, nx⟩, y⟩, hR⟩ : ∃ R, readR line = R := ⟨_, rfl⟩;rw [hR] at HRN HF;dsimp only at HF;have HR := hid hR;clear hR;go_wp2_with fail;refine HRN.out.mono ?_;clear d0 b2 b2z f0 hgz hg1;rintro e w1 ⟨⟨nxo, nxc, rfl, hno, hF⟩, hb1⟩;dsimp only at hF;dsimp only;obtain ⟨V, hV⟩ : ∃ V, V = w1.alloc (.cells #[.string nm, .int .i64 kd, .int .i64 sa, .int .i64 sb, .int .i64 cp, .slice nxo nx.length nxc] 27) := ⟨_, rfl⟩;have hbV : Below w1.heap.size w1 V := by rw [hV]; exact below1 _ _
 have XN : Bx V w1.heap.size [.string nm, .int .i64 kd, .int .i64 sa, .int .i64 sb, .int .i64 cp, .slice nxo nx.length nxc] := by rw [hV]; exact Bx.new [.string nm, .int .i64 kd, .int .i64 sa, .int .i64 sb, .int .i64 cp, .slice nxo nx.length nxc] _ rfl
 have hVs : w1.heap.size < V.heap.size := XN.size;have hBV := hb1.trans (hbV.mono hb1.size);have PV := hid (HH.out.later hBV);have FX := hid (hF.later hbV);have HV := hid hV;have HBV := hid hBV;have hW1 : w0.heap.size ≤ w1.heap.size := hb1.size;have q0 := PV.out.box.c 0 rfl;have qz := PV.out.box.size;have hul : us.length ≤ 10 := PV.out.fit.1;clear hV hbV hb1 hF hno HRN
 go_upto_region 4 with fail
 rw [← HV.out];clear HV
 cases y with
 | false =>
  go_wp2;refine bodyPost_ret (v := .string ⟨#[110, 111]⟩) (by simp [results, Tryz.results86, go_sem]) rfl ?_;exact ⟨by rw [if_neg (fun hh => by rw [HR.out] at hh; cases hh.1)]; rfl, o, c, us, hi, PV.out, by rw [if_neg (fun hh => by rw [HR.out] at hh; cases hh.1)], HB0.out.trans (HBV.out.mono (Nat.le_of_lt HH.out.box.size))⟩
 | true =>
  by_cases h10 : us.length = 10
  ·have hd : ((us.length : Int) == 10) = true := by rw [h10]; rfl
   have H10 := hid h10;clear h10;go_wp2;refine bodyPost_ret (v := .string ⟨#[110, 111]⟩) (by simp [results, Tryz.results86, go_sem]) rfl ?_;exact ⟨by rw [if_neg (fun hh => hh.2 H10.out)]; rfl, o, c, us, hi, PV.out, by rw [if_neg (fun hh => hh.2 H10.out)], HB0.out.trans (HBV.out.mono (Nat.le_of_lt HH.out.box.size))⟩
  ·have hd : ((us.length : Int) == 10) = false := by simp; omega
   have H10 := hid h10;clear h10
   go_upto_region 6 with fail
   have C0 : Hid (V.cell? ⟨q, 0, none⟩ = some (.slice o us.length c) ∧ V.cell? ⟨w1.heap.size, 0, none⟩ = some (.string nm) ∧ V.cell? ⟨w1.heap.size, 1, none⟩ = some (.int .i64 kd) ∧ V.cell? ⟨w1.heap.size, 2, none⟩ = some (.int .i64 sa) ∧ V.cell? ⟨w1.heap.size, 3, none⟩ = some (.int .i64 sb) ∧ V.cell? ⟨w1.heap.size, 4, none⟩ = some (.int .i64 cp) ∧ V.cell? ⟨w1.heap.size, 5, none⟩ = some (.slice nxo nx.length nxc)) := ⟨q0, XN.c 0 rfl, XN.c 1 rfl, XN.c 2 rfl, XN.c 3 rfl, XN.c 4 rfl, XN.c 5 rfl⟩;clear XN;refine wp_walks (zl := [10]) (S := fun Y => Y.cell? ⟨q, 0, none⟩ = some (.slice o us.length c) ∧ Y.cell? ⟨w1.heap.size, 0, none⟩ = some (.string nm) ∧ Y.cell? ⟨w1.heap.size, 1, none⟩ = some (.int .i64 kd) ∧ Y.cell? ⟨w1.heap.size, 2, none⟩ = some (.int .i64 sa) ∧ Y.cell? ⟨w1.heap.size, 3, none⟩ = some (.int .i64 sb) ∧ Y.cell? ⟨w1.heap.size, 4, none⟩ = some (.int .i64 cp) ∧ Y.cell? ⟨w1.heap.size, 5, none⟩ = some (.slice nxo nx.length nxc)) (by kernel_rfl) C0.out (fun hH => ?_);refine Walks.tk 0 hH ?_;refine Walks.tk 1 hH ?_;refine Walks.tk 2 hH ?_;refine Walks.tk 3 hH ?_;refine Walks.tk 4 hH ?_;refine Walks.tk 5 hH ?_;refine Walks.on 6 fun K hK => ?_
   go_simp;obtain ⟨U, hU⟩ : ∃ U, U = (V.alloc (.cells #[.string nm, .int .i64 kd, .int .i64 sa, .int .i64 sb, .int .i64 cp, .slice nxo nx.length nxc] 27)).drew := ⟨_, rfl⟩;rw [← hU];have hbU : Below V.heap.size V U := by rw [hU]; exact (below1 V _).drew
   have hN : hNode.In U.heap.size U (some ⟨V.heap.size, 0, none⟩) [((nm, kd, sa, sb, cp, (nxo, nxc, nx)) : LNode)] := by
    have hx : Bx U V.heap.size [.string nm, .int .i64 kd, .int .i64 sa, .int .i64 sb, .int .i64 cp, .slice nxo nx.length nxc] := by rw [hU]; exact (Bx.new (w := V) [.string nm, .int .i64 kd, .int .i64 sa, .int .i64 sb, .int .i64 cp, .slice nxo nx.length nxc] 27 rfl).drew
    exact hNode_one hx.size hx
   have PU := hid (PV.out.later hbU);have FU := hid (FX.out.later hbU);have C1 := C0.out;have hqV : q < V.heap.size := qz;have CU : U.cell? ⟨q, 0, none⟩ = some (.slice o us.length c) := (hbU.cell (p := ⟨q, 0, none⟩) hqV).trans C1.1;have hBU := HBV.out.trans (hbU.mono HBV.out.size);have hsU : V.heap.size ≤ U.heap.size := hbU.size;refine hK.out _ _ (fun _ => ⟨CU, (hbU.cell (p := ⟨w1.heap.size, 0, none⟩) hVs).trans C1.2.1, (hbU.cell (p := ⟨w1.heap.size, 1, none⟩) hVs).trans C1.2.2.1, (hbU.cell (p := ⟨w1.heap.size, 2, none⟩) hVs).trans C1.2.2.2.1, (hbU.cell (p := ⟨w1.heap.size, 3, none⟩) hVs).trans C1.2.2.2.2.1, (hbU.cell (p := ⟨w1.heap.size, 4, none⟩) hVs).trans C1.2.2.2.2.2.1, (hbU.cell (p := ⟨w1.heap.size, 5, none⟩) hVs).trans C1.2.2.2.2.2.2⟩) (fun hU0 => ?_);clear hK K hU C1 hU0;have hhi0 := PU.out.hi0;have hhi1 : hi ≤ w0.heap.size := HH.out.hi1;refine Walks.on 7 fun K hK => ?_
   refine Kind.appZ hNode_ok U (by rfl) (.tmp 48) (.tmp 50) (by rfl) (q + 1) (.slice o us.length c) us (by rfl) (by exact PU.out.gr.2.1) (by omega) (some ⟨V.heap.size, 0, none⟩) [((nm, kd, sa, sb, cp, (nxo, nxc, nx)) : LNode)] 1 1 (by rfl) rfl (by simp) _ hN (by simp; omega) ?_;intro v' w2 hO2 hB2 hG2 hw2;obtain ⟨tq, tc, rfl, hGR⟩ := gr_app PU.out.gr (FU.out.wide (show hi ≤ w0.heap.size by omega) (by omega)) (by omega) (by omega) hO2 hG2;obtain ⟨zs, hzs⟩ : ∃ zs, zs = us ++ [((nm, kd, sa, sb, cp, (nxo, nxc, nx)) : LNode)] := ⟨_, rfl⟩;rw [← hzs] at hGR hw2 ⊢;have hob : ∀ b, (Value.slice o us.length c).ownBlock = some b → q + 1 ≤ b ∧ b < hi := fun b hb => rw_block PU.out.gr.2 hb
   have hkp : ∀ b, b < U.heap.size → (b = q ∨ w0.heap.size ≤ b) → w2.heap[b]? = U.heap[b]? := fun b hb hc => hG2.block b hb fun e => by have := hob b e.symm; omega
   have hqU : q < U.heap.size := by omega
   have hnU : w1.heap.size < U.heap.size := by omega
   have X2 : Bx w2 q [.slice o us.length c, .pointer none, .bool false, .int .i64 0, .int .i64 0] := PU.out.box.keep hG2.size (hkp q hqU (.inl rfl));have c2 := X2.c 0 rfl;have f2 := X2.f 0 rfl;have z2 := X2.size;have HX2 := hid X2;have HS2 : Hid (w2.cell? ⟨q, 0, none⟩ = some (.slice o us.length c) ∧ w2.cell? ⟨w1.heap.size, 0, none⟩ = some (.string nm) ∧ w2.cell? ⟨w1.heap.size, 1, none⟩ = some (.int .i64 kd) ∧ w2.cell? ⟨w1.heap.size, 2, none⟩ = some (.int .i64 sa) ∧ w2.cell? ⟨w1.heap.size, 3, none⟩ = some (.int .i64 sb) ∧ w2.cell? ⟨w1.heap.size, 4, none⟩ = some (.int .i64 cp) ∧ w2.cell? ⟨w1.heap.size, 5, none⟩ = some (.slice nxo nx.length nxc)) := by
    have hk1 := hkp w1.heap.size hnU (.inr hW1);have C1 := C0.out;exact ⟨c2, (World.cell?_of_block (a := ⟨w1.heap.size, 0, none⟩) hk1).trans ((hbU.cell (p := ⟨w1.heap.size, 0, none⟩) hVs).trans C1.2.1), (World.cell?_of_block (a := ⟨w1.heap.size, 1, none⟩) hk1).trans ((hbU.cell (p := ⟨w1.heap.size, 1, none⟩) hVs).trans C1.2.2.1), (World.cell?_of_block (a := ⟨w1.heap.size, 2, none⟩) hk1).trans ((hbU.cell (p := ⟨w1.heap.size, 2, none⟩) hVs).trans C1.2.2.2.1), (World.cell?_of_block (a := ⟨w1.heap.size, 3, none⟩) hk1).trans ((hbU.cell (p := ⟨w1.heap.size, 3, none⟩) hVs).trans C1.2.2.2.2.1), (World.cell?_of_block (a := ⟨w1.heap.size, 4, none⟩) hk1).trans ((hbU.cell (p := ⟨w1.heap.size, 4, none⟩) hVs).trans C1.2.2.2.2.2.1), (World.cell?_of_block (a := ⟨w1.heap.size, 5, none⟩) hk1).trans ((hbU.cell (p := ⟨w1.heap.size, 5, none⟩) hVs).trans C1.2.2.2.2.2.2)⟩
   have HFIN : Hid (AnsAq q W o us line (.returned (.string okT)) (w2.setCell ⟨q, 0, none⟩ (.slice tq zs.length tc))) := by
    have hc : (readR line).2 = true ∧ us.length ≠ 10 := ⟨by rw [HR.out], H10.out⟩;have hfn := HF.out rfl;have hul2 := H10.out;refine ⟨by rw [if_pos hc], tq, tc, zs, w2.heap.size, ⟨X2.set 0 _, hGR.setOff (.inl (by dsimp only; omega)) _, ⟨by rw [hzs]; simp; omega, fun a ha => ?_⟩, by simp [World.setCell], by omega⟩, ?_, ?_⟩
    ·rw [hzs] at ha
     rcases List.mem_append.1 ha with ha | ha
     ·exact PV.out.fit.2 a ha
     ·rw [List.mem_singleton.1 ha]; exact hfn
    ·rw [if_pos hc, hzs, List.map_append, HR.out]; rfl
    ·exact HB0.out.trans (((hBU.mono (Nat.le_of_lt HH.out.box.size)).trans (hB2.mono (by omega))).setCell (p := ⟨q, 0, none⟩) (Nat.le_refl _) _)
   clear hzs;refine hK.out _ _ (fun _ => HS2.out) (fun _ => ?_);clear hK K hO2 hB2 hG2 hw2 hGR hob hkp X2 C0;refine Walks.on 8 fun K hK => ?_
   go_simp;refine hK.out _ _ (fun _ => HS2.out) (fun _ => ?_);clear hK K;refine Walks.on 9 fun K hK => ?_
   go_simp;refine hK.out _ _ (fun _ => HS2.out) (fun _ => ?_);clear hK K;refine Walks.on 10 fun K hK => ?_
   go_simp;refine hK.out _ _ (fun h => absurd h (by decide)) (fun _ => ?_);clear hK K;refine Walks.done (by kernel_rfl) ?_ _;go_wp2;refine bodyPost_ret (v := .string ⟨#[111, 107]⟩) (by simp [results, Tryz.results86, go_sem]) rfl ?_;exact HFIN.out
end
section
open Go.RowKit

/-- A command's move of the specification. -/
theorem moveS_all (q : Nat) (W : World) (o : Option Addr) (c : Nat) (us : List LNode) (hi lo p bb : Nat) (xs : List Value) (ev fv uv : Value) (st : SS) (h : QR q W o c us hi lo p bb xs ev fv uv st.s st.n) (hg : us.map valNode = st.gs) (k : Nat) (hk : k < 6) (go : Option Addr) (gc : Nat) (l : List Int) (hl : l.length = cmdN k) (hz : kI.In W.heap.size W go l) (hgq : ∀ a, go = some a → q < a.block) :
  Calls Tryz.prog 111 #[.pointer (some ⟨q, 0, none⟩), .int .i64 ((k : Int) + 1), .slice go l.length gc] W (AnsQR q W o c us hi lo p (obeyR st ((k : Int) + 1) l).2 (obeyR st ((k : Int) + 1) l).1.s (obeyR st ((k : Int) + 1) l).1.n) := by
 rw [obeyR_move st hk, movR_is];dsimp only
 by_cases h3 : st.n = 300
 ·have hm : moveA st.gs st.s st.n (mvR ((k : Int) + 1) l) = (whatT, st.s, st.n) := by unfold moveA; rw [if_pos h3]
  rw [hm];have hbx := h.box;rw [h3] at hbx;refine (moveS_full q W _ _ _ _ ((k : Int) + 1) go l.length gc hbx).mono ?_;rintro e W' ⟨rfl, rfl⟩;exact ⟨rfl, bb, xs, ev, fv, uv, h, Below.refl _ _⟩
 ·have hm : ∀ m, moveA st.gs st.s st.n m = (movT (doR (us.map valNode) (srcP (us.map valNode) us.length) st.s m.1 m.2.1 m.2.2).1, (doR (us.map valNode) (srcP (us.map valNode) us.length) st.s m.1 m.2.1 m.2.2).2, st.n + 1) := fun m => by
   unfold moveA
   rw [if_neg h3, ← hg, val_len]
  rw [hm]
  rcases (show k = 0 ∨ k = 1 ∨ k = 2 ∨ k = 3 ∨ k = 4 ∨ k = 5 from by omega) with rfl | rfl | rfl | rfl | rfl | rfl
  ·match l, hl with
   | [x, y], _ => exact moveS_0 q W o c us hi lo p bb xs ev fv uv st.s st.n h x y go gc hz hgq h3
  ·match l, hl with
   | [x], _ => exact moveS_1 q W o c us hi lo p bb xs ev fv uv st.s st.n h x go gc hz hgq h3
  ·match l, hl with
   | [x], _ => exact moveS_2 q W o c us hi lo p bb xs ev fv uv st.s st.n h x go gc hz hgq h3
  ·match l, hl with
   | [x], _ => exact moveS_3 q W o c us hi lo p bb xs ev fv uv st.s st.n h x go gc hz hgq h3
  ·match l, hl with
   | [], _ => exact moveS_4 q W o c us hi lo p bb xs ev fv uv st.s st.n h go gc hz hgq h3
  ·match l, hl with
   | [], _ => exact moveS_5 q W o c us hi lo p bb xs ev fv uv st.s st.n h go gc hz hgq h3
/-- What is told by the specification. -/
theorem tells_all (q : Nat) (W : World) (o : Option Addr) (c : Nat) (us : List LNode) (hi lo p bb : Nat) (xs : List Value) (ev fv uv : Value) (st : SS) (h : QR q W o c us hi lo p bb xs ev fv uv st.s st.n) (hg : us.map valNode = st.gs) (hR : RgI st.s) (k : Nat) (hk : k < 11) (hk6 : ¬ k < 6) (go : Option Addr) (gc : Nat) (l : List Int) (hl : l.length = cmdN k) (hz : kI.In W.heap.size W go l) :
  Calls Tryz.prog 112 #[.pointer (some ⟨q, 0, none⟩), .string (cmdW k), .slice go l.length gc] W (AnsQR q W o c us hi lo p (obeyR st ((k : Int) + 1) l).2 (obeyR st ((k : Int) + 1) l).1.s (obeyR st ((k : Int) + 1) l).1.n) := by
 rcases (show k = 6 ∨ k = 7 ∨ k = 8 ∨ k = 9 ∨ k = 10 from by omega) with rfl | rfl | rfl | rfl | rfl
 ·have h1 := tells_run q W o c us hi lo p bb xs ev fv uv st.s st.n h go l.length gc;rw [hg] at h1;exact h1
 ·exact tells_rep q W o c us hi lo p bb xs ev fv uv st.s st.n h go l.length gc
 ·exact tells_out q W o c us hi lo p bb xs ev fv uv st.s st.n h go l.length gc hR
 ·exact tells_lost q W o c us hi lo p bb xs ev fv uv st.s st.n h go l.length gc hR
 ·match l, hl with
  | [x, y], _ =>
   have h1 := tells_mean q W o c us hi lo p bb xs ev fv uv st.s st.n h go gc x y hz;rw [hg] at h1;exact h1
/-- The state behind a command, in memory. -/
theorem ScQ.of (q : Nat) (W W' : World) (o : Option Addr) (c : Nat) (us : List LNode) (hi lo p : Nat) (st : SS) (hb : st.bg = true) (h0 : st.bad = 0) (hg : us.map valNode = st.gs) (hI : SSI st) (k : Int) (l : List Int) {e : Ending} (h : AnsQR q W o c us hi lo p (obeyR st k l).2 (obeyR st k l).1.s (obeyR st k l).1.n e W') :
  e = .returned (.string (obeyR st k l).2) ∧ ScQ q W' (obeyR st k l).1 ∧ Below q W W' := by
 obtain ⟨he, bb, xs, ev, fv, uv, hQ, hl⟩ := h;obtain ⟨r1, r2, r3⟩ := obeyR_same st k l;exact ⟨he, .inr (.inr ⟨r2.trans hb, r3.trans h0, o, c, us, hi, lo, p, bb, xs, ev, fv, uv, hQ, by rw [r1]; exact hg, ((hI.obey hb h0 k l).run (r2.trans hb) (r3.trans h0)).2.2.2⟩), hl⟩
end
section
open Go.RowKit

/-- What a line answers that adds no node. -/
noncomputable def restR (st : SS) (ws : List ByteArray) : SS × ByteArray := if st.bad ≠ 0 then (st, refT st.bad) else runA st ws
def AnsRest (q : Nat) (W : World) (R : SS × ByteArray) (e : Ending) (W' : World) : Prop := e = .returned (.string R.2) ∧ ScQ q W' R.1 ∧ Below q W W'
theorem runA_no {st : SS} {ws : List ByteArray} (h : cmdR ws = (0, [], false)) : runA st ws = (st, whatT) := by unfold runA; rw [h]
theorem node_no : ∀ j : Nat, j < 11 → nodeW ≠ cmdW j := by
 intro j hj e;have h : ∀ j : Fin 11, nodeW.data.toList ≠ (cmdW j).data.toList := by decide
 exact h ⟨j, hj⟩ (by rw [e])
set_option maxRecDepth 100000 in
set_option maxHeartbeats 8000000 in
theorem lineS_node (q : Nat) (W : World) (st : SS) (line : ByteArray) (ws : List ByteArray) (hws : ws = splitB line 32) (hq : q < W.heap.size) (HBG : Hid (∀ w0, Below W.heap.size W w0 → Calls Tryz.prog 108 #[.pointer (some ⟨q, 0, none⟩)] w0 fun e W' => (∃ v, e = .returned v) ∧ SStep q (OB q) (OB q) w0 W' ∧ ScQ q W' st)) (hbg : st.bg = true) (hI0 : SSI st) (hs : line.size ≤ 3000) (hn0 : el ws 0 = nodeW) (hb2 : Hid (∀ w0, Below W.heap.size W w0 → w0.cell? ⟨q, 2, none⟩ = some (.bool true))) :
  Calls Tryz.prog 86 #[.pointer (some ⟨q, 0, none⟩), .string line] W (AnsRest q W (restR st ws)) := by
 have HCR : Hid (st.bad = 0 → restR st ws = (st, whatT)) := fun h => by rw [restR, if_neg (by rw [h]; decide), runA_no (cmdR_word fun j hj => by rw [hn0]; exact node_no j hj)]
 have HP : Hid (Calls Tryz.prog 85 #[.string line, .int .u8 32] W (AnsS W ws)) := by rw [Hid, hws]; exact l13Split_is line 32 W (by omega)
 have HSh : Hid (ShortT ws) := by rw [Hid, hws]; exact splitB_short 32 (by omega)
 have hL : ws.length ≤ line.size + 1 := by rw [hws]; exact splitB_len line 32
 have hpos : 0 < ws.length := by rw [hws]; exact splitB_pos line 32
 have HQ := hid (Nat.le_of_lt hq);have HQS := hid hq;clear hws;go_enter Tryz.func86, Tryz.ntmps86;go_wp2_with fail;refine HP.out.mono ?_;rintro e w0 ⟨⟨go, qc, rfl, hno, hF⟩, hb0⟩;obtain ⟨g, rfl, hg1, hg2, hg3, _⟩ := hF.at hpos;have hcap := hF.cap;have hI := hid hF.in;have d0 := texts_c hI.out 0 hpos;have HB0 := hid (hb0.mono HQ.out);obtain ⟨x, hx⟩ : ∃ x, x = el ws 0 := ⟨_, rfl⟩;rw [← hx] at d0;have hgz : g < w0.heap.size := by omega
 have hpi : (0 : Int) < (ws.length : Int) := by omega
 have HHB := hid hb0.size;have HBB := hid hb0;have hgq : q < g := by omega
 have HTI := hid hI.out;clear hF hno hb0 hg2 hg3 HP hI hq;have hxn : x = nodeW := by rw [hx]; exact hn0
 have f0 : (x.toList == [110, 111, 100, 101]) = true := by rw [hxn, show nodeW.toList = [110, 111, 100, 101] from by rw [nodeW, Lib.toList_data]]; rfl
 have b2 := hb2.out w0 HBB.out;have HFM := hid (l13Form_is x);rw [hxn, formR_none node_no, ← hxn] at HFM;have qz : q < w0.heap.size := Nat.lt_of_lt_of_le HQS.out HHB.out;clear hx hn0 hxn;go_wp2_with fail;refine (HBG.out w0 HBB.out).mono ?_;rintro e w1 ⟨⟨bv, rfl⟩, hS1, hSC⟩;have e0 : w1.cell? ⟨g, 0, none⟩ = some (.string x) := (World.cell?_of_block (a := ⟨g, 0, none⟩) (hS1.block g hgz (by show ¬ g = q; omega))).trans d0;have hg1z : g < w1.heap.size := Nat.lt_of_lt_of_le hgz hS1.low.size;have HS1 := hid hS1;have HSC := hid hSC;clear d0 b2 f0 hgz qz hS1 HBG hb2
 rcases hSC with ⟨hf, _⟩ | ⟨_, hbad, o, c, us, hi, hQ, hg⟩ | ⟨_, hbad, o, c, us, hi, lo, p, bb, xs, ev, fv, uv, hQ, hg, hR⟩
 ·rw [hbg] at hf; cases hf
 ·
  have c3 := hQ.box.c 3 rfl;have cz := hQ.box.size;have hd : (st.bad != 0) = true := by simpa using hbad
  have HR : Hid (restR st ws = (st, refT st.bad)) := by rw [Hid, restR, if_pos hbad]
  have hb0 := hI0.bad0;have hb1 := hI0.bad1;have HQ1 := hid hQ;have HG1 := hid hg;obtain ⟨bad, hbd⟩ : ∃ x, x = st.bad := ⟨_, rfl⟩;rw [← hbd] at c3 hd HR hb0 hb1 hbad;have HBD := hid hbd;have HNB := hid hbad;clear hbd hQ hg hbad;go_wp2_with fail;refine (num_any bad (by omega) (by omega) w1).mono ?_;rintro e w4 ⟨rfl, hb4⟩;obtain ⟨y, hy⟩ : ∃ y, y = tx (Lib.itoa bad) := ⟨_, rfl⟩;have hys : y.size ≤ 100 := by rw [hy]; exact tx_num bad (by omega) (by omega)
  have hy6 : ¬ 9223372036854775807 < 6 + y.size := by omega
  have HY := hid hy;rw [← hy];have HB4 := hid hb4;clear hy hb4 c3;go_wp2;refine bodyPost_ret (v := .string (⟨#[103, 114, 97, 112, 104, 32]⟩ ++ y)) (by simp [results, Tryz.results86, go_sem]) rfl ?_;rw [HR.out];refine ⟨by rw [refT, ← HY.out]; rfl, .inr (.inl ⟨hbg, by rw [← HBD.out]; exact HNB.out, o, c, us, hi, HQ1.out.later HB4.out, HG1.out⟩), ?_⟩;exact (HB0.out.trans HS1.out.low).trans (HB4.out.mono (Nat.le_of_lt HQ1.out.box.size))
 ·have c3 := hQ.box.c 3 rfl;have cz := hQ.box.size;have HRW := hid (HCR.out hbad);clear hQ hg hR HCR hbad;go_wp2_with fail;refine (HFM.out w1).mono ?_;rintro e w2 ⟨rfl, hw⟩;rw [hw]; clear hw w2
  go_wp2;refine bodyPost_ret (v := .string ⟨#[119, 104, 97, 116]⟩) (by simp [results, Tryz.results86, go_sem]) rfl ?_;rw [HRW.out];exact ⟨rfl, HSC.out, HB0.out.trans HS1.out.low⟩
set_option maxRecDepth 100000 in
set_option maxHeartbeats 16000000 in
theorem lineS_rest (q : Nat) (W : World) (st : SS) (line : ByteArray) (ws : List ByteArray) (hws : ws = splitB line 32) (hq : q < W.heap.size) (HBG : Hid (∀ w0, Below W.heap.size W w0 → Calls Tryz.prog 108 #[.pointer (some ⟨q, 0, none⟩)] w0 fun e W' => (∃ v, e = .returned v) ∧ SStep q (OB q) (OB q) w0 W' ∧ ScQ q W' st)) (hbg : st.bg = true) (hI0 : SSI st) (hs : line.size ≤ 3000) (hn0 : el ws 0 ≠ nodeW) :
  Calls Tryz.prog 86 #[.pointer (some ⟨q, 0, none⟩), .string line] W (AnsRest q W (restR st ws)) := by
 have HP : Hid (Calls Tryz.prog 85 #[.string line, .int .u8 32] W (AnsS W ws)) := by rw [Hid, hws]; exact l13Split_is line 32 W (by omega)
 have HSh : Hid (ShortT ws) := by rw [Hid, hws]; exact splitB_short 32 (by omega)
 have hL : ws.length ≤ line.size + 1 := by rw [hws]; exact splitB_len line 32
 have hpos : 0 < ws.length := by rw [hws]; exact splitB_pos line 32
 have HQ := hid (Nat.le_of_lt hq);have HQS := hid hq;clear hws;go_enter Tryz.func86, Tryz.ntmps86;go_wp2_with fail;refine HP.out.mono ?_;rintro e w0 ⟨⟨go, qc, rfl, hno, hF⟩, hb0⟩;obtain ⟨g, rfl, hg1, hg2, hg3, _⟩ := hF.at hpos;have hcap := hF.cap;have hI := hid hF.in;have d0 := texts_c hI.out 0 hpos;have HB0 := hid (hb0.mono HQ.out);obtain ⟨x, hx⟩ : ∃ x, x = el ws 0 := ⟨_, rfl⟩;rw [← hx] at d0;have hgz : g < w0.heap.size := by omega
 have hpi : (0 : Int) < (ws.length : Int) := by omega
 have HHB := hid hb0.size;have HBB := hid hb0;have hgq : q < g := by omega
 have HTI := hid hI.out;clear hF hno hb0 hg2 hg3 HP hI hq;have HXW0 := hid hx;have f0 : (x.toList == [110, 111, 100, 101]) = false := by
  rw [beq_eq_false_iff_ne];intro he
  apply hn0
  rw [← hx]
  apply ba_toList_inj
  rw [he, nodeW, Lib.toList_data]
 have HFM := hid (l13Form_is x);clear hx hn0;go_wp2_with fail;refine (HBG.out w0 HBB.out).mono ?_;rintro e w1 ⟨⟨bv, rfl⟩, hS1, hSC⟩;have e0 : w1.cell? ⟨g, 0, none⟩ = some (.string x) := (World.cell?_of_block (a := ⟨g, 0, none⟩) (hS1.block g hgz (by show ¬ g = q; omega))).trans d0;have hg1z : g < w1.heap.size := Nat.lt_of_lt_of_le hgz hS1.low.size;have HTX : Hid (∀ j, j < ws.length → w1.cell? ⟨g, j, none⟩ = some (.string (el ws j))) := fun j hj => (World.cell?_of_block (a := ⟨g, j, none⟩) (hS1.block g hgz (by show ¬ g = q; omega))).trans (texts_c HTI.out j hj)
 have HS1 := hid hS1;have HSC := hid hSC;clear d0 f0 hgz hS1 HBG
 rcases hSC with ⟨hf, _⟩ | ⟨_, hbad, o, c, us, hi, hQ, hg⟩ | ⟨_, hbad, o, c, us, hi, lo, p, bb, xs, ev, fv, uv, hQ, hg, hR⟩
 ·rw [hbg] at hf; cases hf
 ·
  have c3 := hQ.box.c 3 rfl;have cz := hQ.box.size;have hd : (st.bad != 0) = true := by simpa using hbad
  have HR : Hid (restR st ws = (st, refT st.bad)) := by rw [Hid, restR, if_pos hbad]
  have hb0 := hI0.bad0;have hb1 := hI0.bad1;have HQ1 := hid hQ;have HG1 := hid hg;obtain ⟨bad, hbd⟩ : ∃ x, x = st.bad := ⟨_, rfl⟩;rw [← hbd] at c3 hd HR hb0 hb1 hbad;have HBD := hid hbd;have HNB := hid hbad;clear hbd hQ hg hbad;go_wp2_with fail;refine (num_any bad (by omega) (by omega) w1).mono ?_;rintro e w4 ⟨rfl, hb4⟩;obtain ⟨y, hy⟩ : ∃ y, y = tx (Lib.itoa bad) := ⟨_, rfl⟩;have hys : y.size ≤ 100 := by rw [hy]; exact tx_num bad (by omega) (by omega)
  have hy6 : ¬ 9223372036854775807 < 6 + y.size := by omega
  have HY := hid hy;rw [← hy];have HB4 := hid hb4;clear hy hb4 c3;go_wp2;refine bodyPost_ret (v := .string (⟨#[103, 114, 97, 112, 104, 32]⟩ ++ y)) (by simp [results, Tryz.results86, go_sem]) rfl ?_;rw [HR.out];refine ⟨by rw [refT, ← HY.out]; rfl, .inr (.inl ⟨hbg, by rw [← HBD.out]; exact HNB.out, o, c, us, hi, HQ1.out.later HB4.out, HG1.out⟩), ?_⟩;exact (HB0.out.trans HS1.out.low).trans (HB4.out.mono (Nat.le_of_lt HQ1.out.box.size))
 ·have c3 := hQ.box.c 3 rfl;have cz := hQ.box.size;have HQ1 := hid hQ;have HG1 := hid hg;have HR1 := hid hR;clear hQ hg hR
  by_cases hkx : ∃ k, k < 11 ∧ x = cmdW k
  case neg =>
   have hkn : ∀ j, j < 11 → x ≠ cmdW j := fun j hj e => hkx ⟨j, hj, e⟩
   rw [formR_none hkn] at HFM;have HRW : Hid (restR st ws = (st, whatT)) := by rw [Hid, restR, if_neg (by rw [hbad]; decide), runA_no (cmdR_word fun j hj => by rw [← HXW0.out]; exact hkn j hj)]
   clear hkx hkn;go_wp2_with fail;refine (HFM.out w1).mono ?_;rintro e w2 ⟨rfl, hw⟩;rw [hw]; clear hw w2
   go_wp2;refine bodyPost_ret (v := .string ⟨#[119, 104, 97, 116]⟩) (by simp [results, Tryz.results86, go_sem]) rfl ?_;rw [HRW.out];exact ⟨rfl, HSC.out, HB0.out.trans HS1.out.low⟩
  obtain ⟨k, hk, hxk⟩ := hkx;have HXX := hid hxk;have HXW : Hid (el ws 0 = cmdW k) := by rw [Hid, ← HXW0.out]; exact hxk
  rw [show formR x = ((cmdN k : Int), if k < 6 then (k : Int) + 1 else 0, true) from by rw [hxk]; exact formR_is hk] at HFM;obtain ⟨kd, hkd⟩ : ∃ d : Int, d = if k < 6 then (k : Int) + 1 else 0 := ⟨_, rfl⟩
  rw [← hkd] at HFM;have HKD : Hid ((k < 6 → kd = (k : Int) + 1) ∧ (¬ k < 6 → kd = 0)) := ⟨fun h => by rw [hkd, if_pos h], fun h => by rw [hkd, if_neg h]⟩;have hnk := cmdN_le k;obtain ⟨nn, hnn⟩ : ∃ nn, nn = cmdN k := ⟨_, rfl⟩;rw [← hnn] at HFM hnk;have HNN := hid hnn;have hwr : IntKind.i64.wrap (1 + (nn : Int)) = 1 + (nn : Int) := by rw [IntKind.wrap_i64] <;> omega
  clear hkd hxk hnn
  by_cases hwl0 : ws.length = 1 + nn
  case neg =>
   have hd : ((ws.length : Int) != 1 + (nn : Int)) = true := by simp; omega
   have HRW : Hid (restR st ws = (st, whatT)) := by rw [Hid, restR, if_neg (by rw [hbad]; decide), runA_no (cmdR_many hk HXW.out (by rw [← HNN.out]; exact hwl0) hpos)]
   clear hwl0;go_wp2_with fail;refine (HFM.out w1).mono ?_;rintro e w2 ⟨rfl, hw⟩;rw [hw]; clear hw w2
   go_wp2;refine bodyPost_ret (v := .string ⟨#[119, 104, 97, 116]⟩) (by simp [results, Tryz.results86, go_sem]) rfl ?_;rw [HRW.out];exact ⟨rfl, HSC.out, HB0.out.trans HS1.out.low⟩
  have hd : ((ws.length : Int) != 1 + (nn : Int)) = false := by simp; omega
  have HWL : Hid (ws.length = 1 + cmdN k) := by rw [Hid, ← HNN.out]; exact hwl0
  have HWL0 := hid hwl0;have HSh2 := hid HSh.out;clear hwl0
  by_cases hq1 : qc = 1
  ·obtain rfl := hq1;have HN1 : Hid (numsO (ws.drop 1) = some []) := by
    have : ws.drop 1 = [] := List.length_eq_zero_iff.1 (by rw [List.length_drop]; omega);rw [Hid, this]; rfl
   have hz1 : ¬ 0 < ws.length - 1 := by omega
   have hz2 : decide ((0 : Int) < ((ws.length - 1 : Nat) : Int)) = false := by simp; omega
   go_wp2_with fail;refine (HFM.out w1).mono ?_;rintro e w2 ⟨rfl, hw⟩;rw [hw]; clear hw w2
   clear c3;go_wp2;clear hd hwr
   go_loopw [11, 87] (fun u i wr => ∃ (v : Value) (acc : List Int), v = u ∧ i = .int .i64 0 ∧ Hid (kI.Own w1.heap.size wr v acc) ∧ Hid (numsO (ws.drop 1) = some acc) ∧ Hid (Below w1.heap.size w1 wr)) (fun _ _ _ => 0)
   case atStart => exact ⟨_, [], rfl, rfl, Kind.Own.nil _ _ _, HN1.out, Below.refl _ _⟩
   case round =>
    obtain ⟨v, acc, rfl, rfl, hO, hN, hB⟩ := hrel;obtain ⟨qo, qc2, rfl, _, hF9⟩ := hO.out.in;have hgq9 : ∀ a, qo = some a → q < a.block := fun a ha => by
     subst ha;have := (own_block_lt hO.out (b := a.block) (by simp [Value.ownBlock])).1;have := HQ1.out.box.size
     omega
    have HRR : Hid (restR st ws = obeyR st ((k : Int) + 1) acc) := by rw [Hid, restR, if_neg (by rw [hbad]; decide), runA, cmdR_yes hk HXW.out HWL.out hN.out]
    have hla : acc.length = cmdN k := by have := numsO_len hN.out; have h9 := HWL.out; rw [List.length_drop] at this; omega
    have hQr := HQ1.out.later hB.out;have HMV := hid (fun (h6 : k < 6) => moveS_all q wr o c us hi lo p bb xs ev fv uv st hQr HG1.out k h6 qo qc2 acc hla hF9 hgq9);have HTL := hid (fun (h6 : ¬ k < 6) => tells_all q wr o c us hi lo p bb xs ev fv uv st hQr HG1.out HR1.out k hk h6 qo qc2 acc hla hF9);have HOF := hid (fun (W' : World) (e : Ending) (hA : AnsQR q wr o c us hi lo p (obeyR st ((k : Int) + 1) acc).2 (obeyR st ((k : Int) + 1) acc).1.s (obeyR st ((k : Int) + 1) acc).1.n e W') => ScQ.of q wr W' o c us hi lo p st hbg hbad HG1.out hI0 ((k : Int) + 1) acc hA);have d9 := (hB.out.cell (p := ⟨g, 0, none⟩) (by dsimp only; omega)).trans e0;have hgr : g < wr.heap.size := Nat.lt_of_lt_of_le hg1z hB.out.size;have HBR := hid (Below.trans (HB0.out.trans HS1.out.low) (hB.out.mono (Nat.le_of_lt HQ1.out.box.size)));obtain ⟨A, hA⟩ : ∃ A, A = obeyR st ((k : Int) + 1) acc := ⟨_, rfl⟩;rw [← hA] at HRR HOF HMV HTL;obtain ⟨st2, T⟩ := A;dsimp only at HRR HOF HMV HTL;have HLA := hid hla;clear hA hF9 hgq9 hO hN hQr hla hB
    by_cases h6 : k < 6
    ·have hkd : kd = (k : Int) + 1 := HKD.out.1 h6;have hgt : decide ((0 : Int) < kd) = true := by simp; omega
     have HM := hid (HMV.out h6);rw [← hkd] at HM;clear HMV HTL hkd h6;go_wp2_with fail;refine HM.out.mono ?_;intro e w9 hA;obtain ⟨rfl, hS, hl⟩ := HOF.out w9 e hA;have HS9 := hid hS;have HL9 := hid hl;clear hA hS hl HM HOF;go_wp2;refine bodyPost_ret (v := .string T) (by simp [results, Tryz.results86, go_sem]) rfl ?_;rw [HRR.out];exact ⟨rfl, HS9.out, HBR.out.trans HL9.out⟩
    ·have hkd : kd = 0 := HKD.out.2 h6;have hgt : decide ((0 : Int) < kd) = false := by simp; omega
     have HM := hid (HTL.out h6);rw [← HXX.out] at HM;clear HMV HTL hkd h6;go_wp2_with fail;refine HM.out.mono ?_;intro e w9 hA;obtain ⟨rfl, hS, hl⟩ := HOF.out w9 e hA;have HS9 := hid hS;have HL9 := hid hl;clear hA hS hl HM HOF;go_wp2;refine bodyPost_ret (v := .string T) (by simp [results, Tryz.results86, go_sem]) rfl ?_;rw [HRR.out];exact ⟨rfl, HS9.out, HBR.out.trans HL9.out⟩
  ·go_wp2_with fail;refine (HFM.out w1).mono ?_;rintro e w2 ⟨rfl, hw⟩;rw [hw]; clear hw w2
   clear c3;go_wp2;clear hd hwr
   go_loopw [11, 87] (fun u i wr => ∃ (m : Nat) (v : Value) (acc : List Int), v = u ∧ m ≤ ws.length - 1 ∧ acc.length ≤ m ∧ i = .int .i64 (m : Int) ∧ Hid (kI.Own w1.heap.size wr v acc) ∧ Hid (numsO ((ws.drop 1).take m) = some acc) ∧ Hid (Below w1.heap.size w1 wr)) (fun _ i _ => ws.length - 1 - (intOf i).toNat)
   case atStart => exact ⟨0, _, [], rfl, Nat.zero_le _, Nat.le_refl _, rfl, Kind.Own.nil _ _ _, rfl, Below.refl _ _⟩
   case round =>
    obtain ⟨m, v, acc, rfl, hm, hal, rfl, hO, hN, hB⟩ := hrel
    by_cases hlt : m < ws.length - 1
    ·have d1 := (hB.out.cell (p := ⟨g, 1 + m, none⟩) (by dsimp only; omega)).trans (HTX.out (1 + m) (by omega));have hgr : g < wr.heap.size := Nat.lt_of_lt_of_le hg1z hB.out.size;have hdl : m < (ws.drop 1).length := by rw [List.length_drop]; omega
     have hel : el (ws.drop 1) m = el ws (1 + m) := by simp [el, Nat.add_comm]
     have hnum := l13Number_is (el ws (1 + m)) wr (HSh2.out _ (el_mem (by omega)));have hmem := el_mem hdl;have htk := take_succ_el hdl;rw [hel] at hmem htk
     cases hn : numL (el ws (1 + m)).data.toList with
     | none =>
      have HRW : Hid (restR st ws = (st, whatT)) := by rw [Hid, restR, if_neg (by rw [hbad]; decide), runA_no (cmdR_nums (numsO_none hmem hn))]
      rw [numR_no hn] at hnum;dsimp only at hnum;have HM := hid hnum
      generalize el ws (1 + m) = y at d1 HM
      have HBr := hid hB.out;clear hnum hmem htk hn hO hN hel hdl hB;go_wp2_with fail;refine HM.out.mono ?_;rintro e w3 ⟨rfl, hw⟩;rw [hw]; clear hw w3
      go_wp2;refine bodyPost_ret (v := .string ⟨#[119, 104, 97, 116]⟩) (by simp [results, Tryz.results86, go_sem]) rfl ?_;rw [HRW.out];exact ⟨rfl, HSC.out.later HBr.out, (HB0.out.trans HS1.out.low).trans (HBr.out.mono (Nat.le_of_lt HQ1.out.box.size))⟩
     | some n =>
      have HN2 : Hid (numsO ((ws.drop 1).take (m + 1)) = some (acc ++ [n])) := by rw [Hid, htk]; exact numsO_snoc _ _ _ _ hN.out hn
      rw [numR_yes hn] at hnum;dsimp only at hnum;have HM := hid hnum
      generalize el ws (1 + m) = y at d1 HM
      clear hnum hmem htk hn hN hel hdl;go_wp2_with fail;refine HM.out.mono ?_;rintro e w3 ⟨rfl, hw⟩;rw [hw]; clear hw w3
      have HA : Hid (kI.Own w1.heap.size (wr.alloc (.cells #[.int .i64 n] 3)) v acc) := hO.out.below (below1 _ _);have HNN9 : Hid (kI.In (wr.heap.size + 1) (wr.alloc (.cells #[.int .i64 n] 3)) (some ⟨wr.heap.size, 0, none⟩) [n]) := int_one (by omega) (by simp);have HBa : Hid (Below w1.heap.size w1 (wr.alloc (.cells #[.int .i64 n] 3))) := Below.allocS hB.out _;have hll : acc.length + 1 ≤ 4194304 := by omega
      have hs1 := hB.out.size;clear hO HM hB d1;go_wp2_with (at_builtin; refine Kind.app kI_ok (wr.alloc (.cells #[.int .i64 n] 3)) rfl (.tmp 98) (.tmp 100) rfl w1.heap.size v acc rfl HA.out (by simp; omega) (some ⟨wr.heap.size, 0, none⟩) [n] 1 1 rfl rfl (by simp) _ HNN9.out hll ?_; intro v' w' hO' hB' hG' hn'; have HB2 : Hid (Below w1.heap.size w1 w') := HBa.out.trans (hB'.mono (by omega)); have HO' : Hid (kI.Own w1.heap.size w' v' (acc ++ [n])) := hO'; clear hO' hB' hG' hn');go_roundw
      case rel => exact ⟨m + 1, v', acc ++ [n], rfl, by omega, by simp; omega, by go_num, HO', HN2, HB2⟩
      case measure => simp [intOf]; omega
    ·obtain rfl : m = ws.length - 1 := by omega
     rw [List.take_of_length_le (by rw [List.length_drop]; omega)] at hN;obtain ⟨qo, qc2, rfl, _, hF9⟩ := hO.out.in;have hgq9 : ∀ a, qo = some a → q < a.block := fun a ha => by
      subst ha;have := (own_block_lt hO.out (b := a.block) (by simp [Value.ownBlock])).1;have := HQ1.out.box.size
      omega
     have HRR : Hid (restR st ws = obeyR st ((k : Int) + 1) acc) := by rw [Hid, restR, if_neg (by rw [hbad]; decide), runA, cmdR_yes hk HXW.out HWL.out hN.out]
     have hla : acc.length = cmdN k := by have := numsO_len hN.out; have h9 := HWL.out; rw [List.length_drop] at this; omega
     have hQr := HQ1.out.later hB.out;have HMV := hid (fun (h6 : k < 6) => moveS_all q wr o c us hi lo p bb xs ev fv uv st hQr HG1.out k h6 qo qc2 acc hla hF9 hgq9);have HTL := hid (fun (h6 : ¬ k < 6) => tells_all q wr o c us hi lo p bb xs ev fv uv st hQr HG1.out HR1.out k hk h6 qo qc2 acc hla hF9);have HOF := hid (fun (W' : World) (e : Ending) (hA : AnsQR q wr o c us hi lo p (obeyR st ((k : Int) + 1) acc).2 (obeyR st ((k : Int) + 1) acc).1.s (obeyR st ((k : Int) + 1) acc).1.n e W') => ScQ.of q wr W' o c us hi lo p st hbg hbad HG1.out hI0 ((k : Int) + 1) acc hA);have d9 := (hB.out.cell (p := ⟨g, 0, none⟩) (by dsimp only; omega)).trans e0;have hgr : g < wr.heap.size := Nat.lt_of_lt_of_le hg1z hB.out.size;have HBR := hid (Below.trans (HB0.out.trans HS1.out.low) (hB.out.mono (Nat.le_of_lt HQ1.out.box.size)));obtain ⟨A, hA⟩ : ∃ A, A = obeyR st ((k : Int) + 1) acc := ⟨_, rfl⟩;rw [← hA] at HRR HOF HMV HTL;obtain ⟨st2, T⟩ := A;dsimp only at HRR HOF HMV HTL;have HLA := hid hla;clear hA hF9 hgq9 hO hN hQr hla hB
     by_cases h6 : k < 6
     ·have hkd : kd = (k : Int) + 1 := HKD.out.1 h6;have hgt : decide ((0 : Int) < kd) = true := by simp; omega
      have HM := hid (HMV.out h6);rw [← hkd] at HM;clear HMV HTL hkd h6;go_wp2_with fail;refine HM.out.mono ?_;intro e w9 hA;obtain ⟨rfl, hS, hl⟩ := HOF.out w9 e hA;have HS9 := hid hS;have HL9 := hid hl;clear hA hS hl HM HOF;go_wp2;refine bodyPost_ret (v := .string T) (by simp [results, Tryz.results86, go_sem]) rfl ?_;rw [HRR.out];exact ⟨rfl, HS9.out, HBR.out.trans HL9.out⟩
     ·have hkd : kd = 0 := HKD.out.2 h6;have hgt : decide ((0 : Int) < kd) = false := by simp; omega
      have HM := hid (HTL.out h6);rw [← HXX.out] at HM;clear HMV HTL hkd h6;go_wp2_with fail;refine HM.out.mono ?_;intro e w9 hA;obtain ⟨rfl, hS, hl⟩ := HOF.out w9 e hA;have HS9 := hid hS;have HL9 := hid hl;clear hA hS hl HM HOF;go_wp2;refine bodyPost_ret (v := .string T) (by simp [results, Tryz.results86, go_sem]) rfl ?_;rw [HRR.out];exact ⟨rfl, HS9.out, HBR.out.trans HL9.out⟩
end
section
open Go.RowKit

theorem restR_is (st : SS) (line : ByteArray) (h1 : ¬ (st.bg = false ∧ el (splitB line 32) 0 = nodeW)) : ansR st line = restR (begS st) (splitB line 32) := by
 unfold restR
 by_cases h2 : (begS st).bad = 0
 ·rw [if_neg (by rw [h2]; decide), ansR_run st line h1 h2]
 ·rw [if_pos h2, ansR_bad st line h1 h2]
theorem lineS_any (q : Nat) (W : World) (st : SS) (line : ByteArray) (h : ScQ q W st) (hI : SSI st) (hs : line.size ≤ 3000) :
  Calls Tryz.prog 86 #[.pointer (some ⟨q, 0, none⟩), .string line] W (AnsLq q W st line) := by
 have hqW := h.size
 by_cases hadd : st.bg = false ∧ el (splitB line 32) 0 = nodeW
 ·rcases h with ⟨hb, o, c, us, hi, hP, hg⟩ | ⟨hb, _⟩ | ⟨hb, _⟩
  ·refine (lineS_add q W o c us hi line _ rfl hP hs hadd.2).mono ?_;rintro e W' ⟨rfl, o', c', us', hi', P', hu, hl⟩;have hlen : us.length = st.gs.length := by rw [← hg, val_len]
   have ha : ansR st line = addR st line := by unfold ansR; rw [if_pos hadd]
   rw [AnsLq, ha]
   unfold addR
   rw [hlen] at hu ⊢
   split
   ·rename_i h1;rw [if_pos h1] at hu;exact ⟨rfl, .inl ⟨hb, o', c', us', hi', P', by rw [hu, hg]⟩, hl⟩
   ·rename_i h1;rw [if_neg h1] at hu;exact ⟨rfl, .inl ⟨hb, o', c', us', hi', P', by rw [hu, hg]⟩, hl⟩
  ·rw [hb] at hadd; cases hadd.1
  ·rw [hb] at hadd; cases hadd.1
 ·rw [show AnsLq q W st line = AnsRest q W (restR (begS st) (splitB line 32)) from by funext e W'; rw [AnsLq, AnsRest, restR_is st line hadd]];have hbg : (begS st).bg = true := by unfold begS; split <;> simp_all
  have HBG : Hid (∀ w0, Below W.heap.size W w0 → Calls Tryz.prog 108 #[.pointer (some ⟨q, 0, none⟩)] w0 fun e W' => (∃ v, e = .returned v) ∧ SStep q (OB q) (OB q) w0 W' ∧ ScQ q W' (begS st)) := fun w0 hb0 => by
   rcases h with ⟨hb, o, c, us, hi, hP, hg⟩ | ⟨hb, hbad, o, c, us, hi, hP, hg⟩ | ⟨hb, hbad, o, c, us, hi, lo, p, bb, xs, ev, fv, uv, hP, hg, hR⟩
   ·refine (beginS_any q w0 o c us hi (hP.later hb0)).mono ?_;rintro e W' ⟨hv, hS, hA⟩;have hbs := begS_of hb hg;refine ⟨hv, hS, ?_⟩
    by_cases h0 : badG (us.map valNode) = 0
    ·rw [if_pos h0] at hA;obtain ⟨lo, p, bb, xs, ev, fv, uv, hQ⟩ := hA;rw [hbs, h0];exact .inr (.inr ⟨rfl, rfl, o, c, us, hi, lo, p, bb, xs, ev, fv, uv, hQ, rfl, RgI.zero hQ.fit.1⟩)
    ·rw [if_neg h0] at hA;rw [hbs];exact .inr (.inl ⟨rfl, h0, o, c, us, hi, hA, rfl⟩)
   ·refine (beginS_old q w0 _ _ _ _ (hP.later hb0).box).mono ?_;rintro e W' ⟨hv, rfl⟩;rw [begS_id hb];exact ⟨hv, SStep.refl _ _ _, .inr (.inl ⟨hb, hbad, o, c, us, hi, hP.later hb0, hg⟩)⟩
   ·refine (beginS_old q w0 _ _ _ _ (hP.later hb0).box).mono ?_;rintro e W' ⟨hv, rfl⟩;rw [begS_id hb];exact ⟨hv, SStep.refl _ _ _, .inr (.inr ⟨hb, hbad, o, c, us, hi, lo, p, bb, xs, ev, fv, uv, hP.later hb0, hg, hR⟩)⟩
  by_cases hw : el (splitB line 32) 0 = nodeW
  ·have hb : st.bg = true := by
    cases hc : st.bg with
    | true => rfl
    | false => exact absurd ⟨hc, hw⟩ hadd
   refine lineS_node q W (begS st) line _ rfl hqW HBG hbg hI.beg hs hw fun w0 hb0 => ?_
   rcases h with ⟨hf, _⟩ | ⟨_, hbad, o, c, us, hi, hP, hg⟩ | ⟨_, hbad, o, c, us, hi, lo, p, bb, xs, ev, fv, uv, hP, hg, hR⟩
   ·rw [hb] at hf; cases hf
   ·exact (hP.later hb0).box.c 2 rfl
   ·exact (hP.later hb0).box.c 2 rfl
  ·exact lineS_rest q W (begS st) line _ rfl hqW HBG hbg hI.beg hs hw
/-- What running a script answers. -/
def AnsLR (W : World) (text : ByteArray) (e : Ending) (W' : World) : Prop :=
  (if (linesR text).2 = true then ∃ q, W.heap.size ≤ q ∧ e = .returned (.tuple #[.pointer (some ⟨q, 0, none⟩), .string (tx (catL (linesA st0 (linesR text).1).2)), .bool true]) ∧ ScQ q W' (linesA st0 (linesR text).1).1
   else ∃ q, e = .returned (.tuple #[.pointer (some ⟨q, 0, none⟩), .string ⟨#[]⟩, .bool false])) ∧ Below W.heap.size W W'
/-- What RunPipe, GraphOfText and LastPipe say of a text that is a script. -/
theorem linesR_yes {s : ByteArray} (h : s.size ≤ 3000 ∧ (splitB s 10).length ≤ 201 ∧ el (splitB s 10) ((splitB s 10).length - 1) = ⟨#[]⟩) : linesR s = ((splitB s 10).take ((splitB s 10).length - 1), true) := if_pos h
theorem linesR_no {s : ByteArray} (h : ¬ (s.size ≤ 3000 ∧ (splitB s 10).length ≤ 201 ∧ el (splitB s 10) ((splitB s 10).length - 1) = ⟨#[]⟩)) : linesR s = ([], false) := if_neg h
end
section
open Go.RowKit
end
end Go.Proofs.YtdacedbfnlkghaaGreatDoor
