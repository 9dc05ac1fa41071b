/- The program's account of an item. No conditions but those written. Emits in order: plain facts. No conditions but those written. The program's closure that compares two emits. No conditions but those written. -/
import Derived.Test.YtoeonbdoopboiaaGreatDoorPMkMm
import Derived.Test.YtoeonbdoopboiaaGreatDoorPCvbHi
import Derived.Test.YtoeonbdoopboiaaGreatDoorPYtYj
import Derived.Test.YtoeonbdoopboiaaGreatDoorPSiRu
import Derived.Shelf.SlSortCmp.QuietGrown
namespace Go.Proofs.YtoeonbdoopboiaaGreatDoor
section
open Go.RowKit

section
variable {E : Nat → Int → List (Int × Int)} {i : Int} {s : PP}
theorem emL_succ {em : List (Int × Int × Int)} {m : Nat} (h : m < em.length) : emL i (em.take (m + 1)) = emL i (em.take m) ++ (if (el em m).1 = i then [((el em m).2.1, (el em m).2.2)] else []) := flat_take _ h
theorem boxL_succ {l : List (Int × Int × Int)} {k m : Nat} (h : m < l.length) : boxL E i k (l.take (m + 1)) = boxL E i k (l.take m) ++ (if (el l m).1 = i then E k (el l m).2.1 else []) := flat_take _ h
theorem faL_succ {fa : List (Int × Int × Int × Int)} {m : Nat} (h : m < fa.length) : faL E i (fa.take (m + 1)) = faL E i (fa.take m) ++ (if (el fa m).1 = i then E (el fa m).2.1.toNat (el fa m).2.2.1 else []) := flat_take _ h
theorem bxsL_succ {bx : List (List (Int × Int × Int))} {k : Nat} : bxsL E i bx (k + 1) = bxsL E i bx k ++ boxL E i k (el bx k) := by
  rw [bxsL, List.range_succ, List.flatMap_append]; simp [bxsL]
theorem bxsL_le {bx : List (List (Int × Int × Int))} : ∀ {n k : Nat}, k ≤ n → (bxsL E i bx k).length ≤ (bxsL E i bx n).length
  | 0, k, h => by obtain rfl : k = 0 := by omega
                  exact Nat.le_refl _
  | n + 1, k, h => by
    by_cases e : k = n + 1
    · subst e; exact Nat.le_refl _
    · have := bxsL_le (bx := bx) (n := n) (k := k) (by omega)
      rw [bxsL_succ, List.length_append]; omega
/-- The account up to a token, up to a lost one. -/
def pre3 (E : Nat → Int → List (Int × Int)) (i : Int) (s : PP) (k m : Nat) : List (Int × Int) := emL i s.em ++ bxsL E i s.bx k ++ boxL E i k ((el s.bx k).take m)
def pre4 (E : Nat → Int → List (Int × Int)) (i : Int) (s : PP) (m : Nat) : List (Int × Int) := emL i s.em ++ bxsL E i s.bx s.bx.length ++ faL E i (s.fa.take m)
theorem pre3_zero (k : Nat) : pre3 E i s k 0 = emL i s.em ++ bxsL E i s.bx k := by simp [pre3, boxL]
theorem pre3_all (k : Nat) : pre3 E i s k (el s.bx k).length = emL i s.em ++ bxsL E i s.bx (k + 1) := by rw [pre3, List.take_length, bxsL_succ, List.append_assoc]
theorem pre3_succ {k m : Nat} (h : m < (el s.bx k).length) : pre3 E i s k (m + 1) = pre3 E i s k m ++ (if (el (el s.bx k) m).1 = i then E k (el (el s.bx k) m).2.1 else []) := by rw [pre3, pre3, boxL_succ h]; simp only [List.append_assoc]
theorem pre4_zero : pre4 E i s 0 = emL i s.em ++ bxsL E i s.bx s.bx.length := by simp [pre4, faL]
theorem pre4_succ {m : Nat} (h : m < s.fa.length) : pre4 E i s (m + 1) = pre4 E i s m ++ (if (el s.fa m).1 = i then E (el s.fa m).2.1.toNat (el s.fa m).2.2.1 else []) := by rw [pre4, pre4, faL_succ h]; simp only [List.append_assoc]
theorem pre4_all : pre4 E i s s.fa.length = accL E i s := by rw [pre4, List.take_length]; rfl
theorem em_le (hA : (accL E i s).length ≤ 400) (m : Nat) : (emL i (s.em.take m)).length ≤ 400 := by
  have h := flat_le (fun e : Int × Int × Int => if e.1 = i then [(e.2.1, e.2.2)] else []) s.em m
  unfold accL at hA
  simp only [List.length_append] at hA
  change (emL i (s.em.take m)).length ≤ (emL i s.em).length at h
  omega
theorem pre3_le (hA : (accL E i s).length ≤ 400) {k : Nat} (hk : k < s.bx.length) (m : Nat) : (pre3 E i s k m).length ≤ 400 := by
  have h := flat_le (fun t : Int × Int × Int => if t.1 = i then E k t.2.1 else []) (el s.bx k) m
  have h2 := bxsL_le (E := E) (i := i) (bx := s.bx) (n := s.bx.length) (k := k + 1) (by omega)
  rw [bxsL_succ, List.length_append] at h2
  unfold accL at hA
  unfold pre3
  simp only [List.length_append] at hA ⊢
  change (boxL E i k ((el s.bx k).take m)).length ≤ (boxL E i k (el s.bx k)).length at h
  omega
theorem pre4_le (hA : (accL E i s).length ≤ 400) (m : Nat) : (pre4 E i s m).length ≤ 400 := by
  have h := flat_le (fun e : Int × Int × Int × Int => if e.1 = i then E e.2.1.toNat e.2.2.1 else []) s.fa m
  unfold accL at hA
  unfold pre4
  simp only [List.length_append] at hA ⊢
  change (faL E i (s.fa.take m)).length ≤ (faL E i s.fa).length at h
  omega
end
set_option maxRecDepth 100000 in
set_option maxHeartbeats 8000000 in
theorem accountOf_any (lo : Nat) (W : World) (p bb gb goff gc : Nat) (ts : List LNode) (sv : Value) (xs : List Value) (ev fv uv : Value) (s : PP) (item : Int) (h : Flow lo W p bb (.slice (some ⟨gb, goff, none⟩) ts.length gc) sv xs ev fv uv s) (hn : s.bx.length = ts.length) (hz : DIn dNode W.heap.size W (some ⟨gb, goff, none⟩) ts) (hF : FitN ts) (hG : GoodE (ts.map valNode)) (hR : ¬ (orderP (ts.map valNode)).length < (ts.map valNode).length) (hw : widP (ts.map valNode) ≤ 100000) (hI : InvS (ts.map valNode) s) (hL : LostI (ts.map valNode) s.fa) (hA : (accL (emitP (ts.map valNode)) item s).length ≤ 400) (hbig : s.em.length ≤ 1000000 ∧ s.fa.length ≤ 1000000 ∧ totT s.bx ≤ 1000000) :
    Calls Tryz.prog 59 #[.pointer (some ⟨p, 0, none⟩), .int .i64 item] W fun e W' => (∃ v, e = .returned v ∧ kE.Own W.heap.size W' v (accL (emitP (ts.map valNode)) item s)) ∧ Below W.heap.size W W' := by
  have hp := h.box.size
  have hbb := h.hnd.size
  have c0 := h.box.c 0 rfl
  have c5 := h.box.c 5 rfl
  have c6 := h.box.c 6 rfl
  have c7 := h.box.c 7 rfl
  obtain ⟨eo, ec, he, _, hEI⟩ := h.emo.in
  obtain ⟨fo, fc, hf, _, hFI⟩ := h.fao.in
  rw [he] at c6
  rw [hf] at c7
  have HC := hid (And.intro c0 (And.intro c5 c7))
  have HEI := hid hEI
  have HFI := hid hFI
  have HH := hid h
  have HI := hid hI
  have HLO := hid hL
  have HA := hid hA
  have HBG := hid hbig
  have hmany : s.bx.length ≤ 10 := by have := hG.edg.many; rw [List.length_map] at this; omega
  have HNE := hid hn
  have hn1 : s.bx.length ≤ ts.length := by omega
  have hn2 : ts.length ≤ s.bx.length := by omega
  have HEM : Hid (∀ (k : Nat) (v : Int) (V : World), k < ts.length → valB v = true → Below W.heap.size W V → Calls Tryz.prog 85 #[(.slice (some ⟨gb, goff, none⟩) ts.length gc), .int .i64 (k : Int), .int .i64 v] V (AnsEm V (emitP (ts.map valNode) k v))) := fun k v V hk hv hV =>
    emitsOf_is (some ⟨gb, goff, none⟩) gc ts V k v hG.edg hR hG.st hk hv hw hF (hz.later dNode_ok hV)
  clear h hn hI hL hA hbig he hf hEI hFI hz hF hw hR c5 c7
  go_enter Tryz.func59, Tryz.ntmps59
  go_wp2
  clear c0 c6
  go_loopw [5, 20] (fun u i wr => ∃ (m : Nat) (v : Value), v = u ∧ i = .int .i64 (m : Int) ∧ m ≤ s.em.length ∧ Hid (kE.Own W.heap.size wr v (emL item (s.em.take m))) ∧ Hid (Below W.heap.size W wr)) (fun _ i _ => s.em.length - (intOf i).toNat)
  case atStart => exact ⟨0, _, rfl, rfl, Nat.zero_le _, Kind.Own.nil _ _ _, Below.refl _ _⟩
  case round =>
    obtain ⟨m, v, rfl, rfl, hm, hO, hB⟩ := hrel
    by_cases hlt : m < s.em.length
    · have hmi : (m : Int) < (s.em.length : Int) := by omega
      have hmb : m ≤ 1000000 := by have := HBG.out.1; omega
      obtain ⟨b, off, rfl, hb, hc⟩ := kOu_at HEI.out hlt
      obtain ⟨d0, d1, d2⟩ := hc m hlt
      have e0 := (hB.out.cell (p := ⟨b, off + m * 3, none⟩) hb).trans d0
      have e1 := (hB.out.cell (p := ⟨b, off + m * 3 + 1, none⟩) hb).trans d1
      have e2 := (hB.out.cell (p := ⟨b, off + m * 3 + 2, none⟩) hb).trans d2
      have hwz := hB.out.size
      have hbw : b < wr.heap.size := Nat.lt_of_lt_of_le hb hwz
      have HS := hid (emL_succ (i := item) hlt)
      have hle := em_le HA.out m
      obtain ⟨⟨t1, t2, t3⟩, et⟩ : ∃ t, t = el s.em m := ⟨_, rfl⟩
      rw [← et] at e0 e1 e2 HS
      dsimp only at e0 e1 e2 HS
      clear d0 d1 d2 hc et
      by_cases h1 : t1 = item
      · rw [if_pos h1] at HS
        have hd1 : (t1 == item) = true := by simpa using h1
        obtain ⟨X, hX⟩ : ∃ X, X = (wr.alloc (.cells #[.int .i64 t1, .int .i64 t2, .int .i64 t3] 99)).alloc (.cells #[.int .i64 t2, .int .i64 t3] 101) := ⟨_, rfl⟩
        have hbX : Below wr.heap.size wr X := by rw [hX]; exact below2 _ _ _
        have hNX : kE.In X.heap.size X (some ⟨wr.heap.size + 1, 0, none⟩) [(t2, t3)] := by
          have hx : Bx X (wr.heap.size + 1) [.int .i64 t2, .int .i64 t3] := by
            have := Bx.new (w := wr.alloc (.cells #[.int .i64 t1, .int .i64 t2, .int .i64 t3] 99)) [.int .i64 t2, .int .i64 t3] 101 rfl
            rw [show (wr.alloc (.cells #[.int .i64 t1, .int .i64 t2, .int .i64 t3] 99)).heap.size = wr.heap.size + 1 by simp] at this
            rw [hX]; exact this
          exact emits_mk hx.size (hx.c 0 rfl) (hx.c 1 rfl)
        have HX := hid hX
        have HOX := hid (hO.out.below hbX)
        have HN := hid hNX
        have HBX := hid (hB.out.trans (hbX.mono hwz))
        have hlX : W.heap.size ≤ X.heap.size := HBX.out.size
        clear hX hbX hNX hO hB h1
        go_wp2_with (at_builtin; rw [← HX.out]; refine Kind.appN kE_ok X rfl (.tmp 28) (.tmp 34) rfl W.heap.size v (emL item (s.em.take m)) rfl HOX.out hlX (some ⟨wr.heap.size + 1, 0, none⟩) [(t2, t3)] 1 1 rfl rfl (by simp) _ HN.out (by rw [List.length_singleton]; omega) ?_; intro v' w5 hO5 hB5 hG5 hw5; have HO5 := hid hO5; have HB5 := hid (HBX.out.trans (hB5.mono (Nat.le_refl _))); clear hO5 hB5 hG5 hw5)
        go_roundw
        case rel => exact ⟨m + 1, v', rfl, by go_num, by omega, by rw [HS.out]; exact HO5.out, HB5⟩
        case measure => simp [intOf]; omega
      · rw [if_neg h1, List.append_nil] at HS
        have hd1 : (t1 == item) = false := by simpa using h1
        clear h1
        go_wp2
        go_roundw
        case rel => exact ⟨m + 1, _, rfl, by go_num, by omega, by rw [HS.out]; exact hO.out.below (below1 _ _), hB.out.trans ((below1 _ _).mono hwz)⟩
        case measure => simp [intOf]; omega
    · obtain rfl : m = s.em.length := by omega
      rw [List.take_length] at hO
      have x5 := (hB.out.cell (p := ⟨p, 5, none⟩) hp).trans HC.out.2.1
      obtain ⟨w1, hw1⟩ : ∃ w1, w1 = wr := ⟨_, rfl⟩
      rw [← hw1] at hO hB x5 ⊢
      clear hw1 wr
      go_wp2
      clear x5
      go_loopw [5, 43] (fun u i wr => ∃ (k : Nat) (v : Value), v = u ∧ i = .int .i64 (k : Int) ∧ k ≤ s.bx.length ∧ Hid (kE.Own W.heap.size wr v (emL item s.em ++ bxsL (emitP (ts.map valNode)) item s.bx k)) ∧ Hid (Below W.heap.size W wr)) (fun _ i _ => s.bx.length - (intOf i).toNat)
      case atStart => exact ⟨0, _, rfl, rfl, Nat.zero_le _, by rw [show bxsL (emitP (ts.map valNode)) item s.bx 0 = [] from rfl, List.append_nil]; exact hO, hB⟩
      case round =>
        obtain ⟨k, v, rfl, rfl, hk, hO, hB⟩ := hrel
        rename World => wq
        by_cases hlt : k < s.bx.length
        · have hki : (k : Int) < (s.bx.length : Int) := by omega
          have hkt : k < ts.length := by omega
          have FW := HH.out.later hB.out
          have ck := (FW.head hlt).1
          obtain ⟨ho, hc, hsl, hq1, hq2⟩ := FW.hnd.slice hlt
          obtain ⟨ho2, hc2, hsl2, hq3, hq4⟩ := HH.out.hnd.slice hlt
          rw [hsl] at hsl2
          obtain ⟨rfl, rfl⟩ : ho = ho2 ∧ hc = hc2 := by simp at hsl2; exact hsl2
          rw [hsl] at ck
          have HRI := hid hq4.in
          have htl := totT_el hlt
          obtain ⟨L, hL⟩ : ∃ L, L = el s.bx k := ⟨_, rfl⟩
          rw [← hL] at ck HRI htl
          have HLL := hid hL
          have hLb : L.length ≤ 1000000 := by have := HBG.out.2.2; omega
          clear FW hsl hsl2 hq1 hq2 hq3 hq4 hL
          go_wp2
          clear ck
          go_loopw [5, 50] (fun u i wr => ∃ (m : Nat) (v : Value), v = u ∧ i = .int .i64 (m : Int) ∧ m ≤ L.length ∧ Hid (kE.Own W.heap.size wr v (pre3 (emitP (ts.map valNode)) item s k m)) ∧ Hid (Below W.heap.size W wr)) (fun _ i _ => L.length - (intOf i).toNat)
          case atStart => exact ⟨0, _, rfl, rfl, Nat.zero_le _, by rw [pre3_zero]; exact hO, hB⟩
          case round =>
            obtain ⟨m, v, rfl, rfl, hm, hO, hB⟩ := hrel
            by_cases hlt2 : m < L.length
            · have hmi : (m : Int) < (L.length : Int) := by omega
              obtain ⟨b, off, rfl, hb, hc⟩ := kTk_at HRI.out hlt2
              obtain ⟨d0, d1, d2⟩ := hc m hlt2
              have e0 := (hB.out.cell (p := ⟨b, off + m * 3, none⟩) hb).trans d0
              have e1 := (hB.out.cell (p := ⟨b, off + m * 3 + 1, none⟩) hb).trans d1
              have e2 := (hB.out.cell (p := ⟨b, off + m * 3 + 2, none⟩) hb).trans d2
              have hwz := hB.out.size
              have hbw : b < wr.heap.size := Nat.lt_of_lt_of_le hb hwz
              have HS := hid (pre3_succ (E := (emitP (ts.map valNode))) (i := item) (s := s) (k := k) (m := m) (by rw [← HLL.out]; exact hlt2))
              have hvv := HI.out.val k (el L m) (by rw [← HLL.out]; exact el_mem hlt2)
              rw [← HLL.out] at HS
              obtain ⟨⟨t1, t2, t3⟩, et⟩ : ∃ t, t = el L m := ⟨_, rfl⟩
              rw [← et] at e0 e1 e2 HS hvv
              dsimp only at e0 e1 e2 HS hvv
              clear d0 d1 d2 hc et
              by_cases h1 : t1 = item
              · rw [if_pos h1] at HS
                have hd1 : (t1 == item) = true := by simpa using h1
                have hb0 := below1 wr (.cells #[.int .i64 t1, .int .i64 t2, .int .i64 t3] 104)
                have T0 := Bx.new (w := wr) [.int .i64 t1, .int .i64 t2, .int .i64 t3] 104 rfl
                obtain ⟨V, hV⟩ : ∃ V, V = wr.alloc (.cells #[.int .i64 t1, .int .i64 t2, .int .i64 t3] 104) := ⟨_, rfl⟩
                rw [← hV] at hb0 T0
                have HV := hid hV
                have HOV := hid (hO.out.below hb0)
                have HBV := hid (hB.out.trans (hb0.mono hwz))
                have hbV : wr.heap.size < V.heap.size := T0.size
                obtain ⟨EM, hEM⟩ : ∃ EM, EM = emitP (ts.map valNode) k t2 := ⟨_, rfl⟩
                have HLE : Hid ((pre3 (emitP (ts.map valNode)) item s k m ++ EM).length ≤ 400) := by rw [Hid, hEM, ← HS.out]; exact pre3_le HA.out hlt _
                have HEC := hid (fun V => HEM.out k t2 V hkt hvv)
                rw [← hEM] at HS HEC
                have HSS : Hid (∀ (Y : World), Below V.heap.size V Y → Y.cell? ⟨p, 0, none⟩ = some (.slice (some ⟨gb, goff, none⟩) ts.length gc) ∧ Y.cell? ⟨wr.heap.size, 1, none⟩ = some (.int .i64 t2)) := fun Y hY => ⟨((HBV.out.trans (hY.mono HBV.out.size)).cell (p := ⟨p, 0, none⟩) hp).trans HC.out.1, (T0.later hY).c 1 rfl⟩
                have SV := hid (HSS.out V (Below.refl _ _))
                have HSG : Hid (∀ (Y Z : World), (Y.cell? ⟨p, 0, none⟩ = some (.slice (some ⟨gb, goff, none⟩) ts.length gc) ∧ Y.cell? ⟨wr.heap.size, 1, none⟩ = some (.int .i64 t2)) → V.heap.size ≤ Y.heap.size → Y.grownBy Z v.ownBlock → Z.cell? ⟨p, 0, none⟩ = some (.slice (some ⟨gb, goff, none⟩) ts.length gc) ∧ Z.cell? ⟨wr.heap.size, 1, none⟩ = some (.int .i64 t2)) := fun Y Z hY hzY hg => by
                  have hvp : v.ownBlock ≠ some p := fun e => by have := (own_block_lt hO.out e).1; omega
                  have hvt : v.ownBlock ≠ some wr.heap.size := fun e => by have := (own_block_lt hO.out e).2; omega
                  exact ⟨(World.cell?_of_block (a := ⟨p, 0, none⟩) (hg.block p (by omega) (fun e => hvp e.symm))).trans hY.1, (World.cell?_of_block (a := ⟨wr.heap.size, 1, none⟩) (hg.block wr.heap.size (by omega) (fun e => hvt e.symm))).trans hY.2⟩
                clear hV hb0 T0 hO hB h1 hEM
                go_wp2_with fail
                rw [← HV.out]
                refine wp_walks (zl := []) (S := fun Y => Y.cell? ⟨p, 0, none⟩ = some (.slice (some ⟨gb, goff, none⟩) ts.length gc) ∧ Y.cell? ⟨wr.heap.size, 1, none⟩ = some (.int .i64 t2)) (by kernel_rfl) SV.out (fun hH => ?_)
                refine Walks.take (i := 0) (v := ?va0) rfl (by kernel_rfl) (by kernel_rfl) (fun _ _ _ h => h) _ _ _ _ (by kernel_rfl) (by kernel_rfl) (Or.inl ⟨by rfl, ?hya0⟩) hH ?resta0
                case hya0 => (intro w' hSw; (try dsimp only at hSw); go_simp <;> with_reducible rfl)
                refine Walks.take (i := 1) (v := ?va1) rfl (by kernel_rfl) (by kernel_rfl) (fun _ _ _ h => h) _ _ _ _ (by kernel_rfl) (by kernel_rfl) (Or.inl ⟨by rfl, ?hya1⟩) hH ?resta1
                case hya1 => (intro w' hSw; (try dsimp only at hSw); go_simp <;> with_reducible rfl)
                refine Walks.take (i := 2) (v := ?va2) rfl (by kernel_rfl) (by kernel_rfl) (fun _ _ _ h => h) _ _ _ _ (by kernel_rfl) (by kernel_rfl) (Or.inl ⟨by rfl, ?hya2⟩) hH ?resta2
                case hya2 => (intro w' hSw; (try dsimp only at hSw); go_simp <;> with_reducible rfl)
                refine Walks.take (i := 3) (v := ?va3) rfl (by kernel_rfl) (by kernel_rfl) (fun _ _ _ h => h) _ _ _ _ (by kernel_rfl) (by kernel_rfl) (Or.inl ⟨by rfl, ?hya3⟩) hH ?resta3
                case hya3 => (intro w' hSw; (try dsimp only at hSw); go_simp <;> with_reducible rfl)
                refine Walks.take (i := 4) (v := ?va4) rfl (by kernel_rfl) (by kernel_rfl) (fun _ _ _ h => h) _ _ _ _ (by kernel_rfl) (by kernel_rfl) (Or.inl ⟨by rfl, ?hya4⟩) hH ?resta4
                case hya4 => (intro w' hSw; (try dsimp only at hSw); go_simp <;> with_reducible rfl)
                refine Walks.take (i := 5) (v := ?va5) rfl (by kernel_rfl) (by kernel_rfl) (fun _ _ _ h => h) _ _ _ _ (by kernel_rfl) (by kernel_rfl) (Or.inl ⟨by rfl, ?hya5⟩) hH ?resta5
                case hya5 => (intro w' hSw; (try dsimp only at hSw); go_simp <;> with_reducible rfl)
                refine Walks.take (i := 6) (v := ?va6) rfl (by kernel_rfl) (by kernel_rfl) (fun _ _ _ h => h) _ _ _ _ (by kernel_rfl) (by kernel_rfl) (Or.inl ⟨by rfl, ?hya6⟩) hH ?resta6
                case hya6 => (intro w' hSw; (try dsimp only at hSw); go_simp <;> with_reducible rfl)
                refine Walks.take (i := 7) (v := ?va7) rfl (by kernel_rfl) (by kernel_rfl) (fun _ _ _ h => h) _ _ _ _ (by kernel_rfl) (by kernel_rfl) (Or.inl ⟨by rfl, ?hya7⟩) hH ?resta7
                case hya7 => (intro w' hSw; (try dsimp only at hSw); go_simp <;> with_reducible rfl)
                refine Walks.one (i := 8) (o := _) (by kernel_rfl) rfl (fun K hK => ?_)
                go_simp
                refine (HEC.out V.drew HBV.out.drew).mono ?_
                rintro e w2 ⟨⟨go, gc2, rfl, hno, hfr⟩, hb20⟩
                have HB2 := hid (HBV.out.drew.trans (hb20.mono (show W.heap.size ≤ V.drew.heap.size from HBV.out.size)))
                have S2 := HSS.out w2 ((Below.refl V.heap.size V).drew.trans hb20)
                have hz2 : V.heap.size ≤ w2.heap.size := hb20.size
                have HON := hid ((HOV.out.below (Below.refl _ _).drew).below hb20)
                have HIN := hid hfr.in
                clear hb20 hfr
                refine hK.out _ _ (fun _ => S2) (fun _ => ?_)
                clear hK K
                refine Walks.one (i := 9) (o := _) (by kernel_rfl) rfl (fun K hK => ?_)
                refine Kind.appZ kE_ok w2 (by rfl) (.tmp 58) (.tmp 66) (by rfl) W.heap.size v (pre3 (emitP (ts.map valNode)) item s k m) (by rfl) HON.out HB2.out.size go EM EM.length gc2 (by rfl) rfl hno _ HIN.out (by have := HLE.out; rw [← List.length_append]; omega) ?_
                intro v' w5 hO5 hB5 hG5 hw5
                have S5 := HSG.out w2 w5 S2 hz2 hG5
                have HO5 := hid hO5
                have HB5 := hid (HB2.out.trans (hB5.mono (Nat.le_refl _)))
                clear hO5 hB5 hG5 hw5
                refine hK.out _ _ (fun _ => S5) (fun _ => ?_)
                clear hK K
                refine Walks.one (i := 10) (o := _) (by kernel_rfl) rfl (fun K hK => ?_)
                go_simp
                refine hK.out _ _ (fun _ => S5) (fun _ => ?_)
                clear hK K
                refine Walks.done (by kernel_rfl) ?_ _
                go_wp2
                go_roundw
                case rel => exact ⟨m + 1, v', rfl, by go_num, by omega, by rw [HS.out]; exact HO5.out, HB5⟩
                case measure => simp [intOf]; omega
              · rw [if_neg h1, List.append_nil] at HS
                have hd1 : (t1 == item) = false := by simpa using h1
                clear h1
                go_wp2
                go_roundw
                case rel => exact ⟨m + 1, _, rfl, by go_num, by omega, by rw [HS.out]; exact hO.out.below (below1 _ _), hB.out.trans ((below1 _ _).mono hwz)⟩
                case measure => simp [intOf]; omega
            · obtain rfl : m = L.length := by omega
              have HO2 : Hid (kE.Own W.heap.size wr v (emL item s.em ++ bxsL (emitP (ts.map valNode)) item s.bx (k + 1))) := by
                have h9 := hO.out
                rw [HLL.out, pre3_all] at h9
                exact h9
              go_wp2
              go_roundw
              case rel => exact ⟨k + 1, v, rfl, by go_num, by omega, HO2, hB⟩
              case measure => simp [intOf]; omega
        · obtain rfl : k = s.bx.length := by omega
          have x7 := (hB.out.cell (p := ⟨p, 7, none⟩) hp).trans HC.out.2.2
          obtain ⟨w2, hw2⟩ : ∃ w2, w2 = wq := ⟨_, rfl⟩
          rw [← hw2] at hO hB x7 ⊢
          clear hw2 wq
          go_wp2
          clear x7
          go_loopw [5, 76] (fun u i wr => ∃ (m : Nat) (v : Value), v = u ∧ i = .int .i64 (m : Int) ∧ m ≤ s.fa.length ∧ Hid (kE.Own W.heap.size wr v (pre4 (emitP (ts.map valNode)) item s m)) ∧ Hid (Below W.heap.size W wr)) (fun _ i _ => s.fa.length - (intOf i).toNat)
          case atStart => exact ⟨0, _, rfl, rfl, Nat.zero_le _, by rw [pre4_zero]; exact hO, hB⟩
          case round =>
            obtain ⟨m, v, rfl, rfl, hm, hO, hB⟩ := hrel
            by_cases hlt2 : m < s.fa.length
            · have hmi : (m : Int) < (s.fa.length : Int) := by omega
              have hmb : m ≤ 1000000 := by have := HBG.out.2.1; omega
              obtain ⟨b, off, rfl, hb, hc⟩ := kLo_at HFI.out hlt2
              obtain ⟨d0, d1, d2, d3⟩ := hc m hlt2
              have e0 := (hB.out.cell (p := ⟨b, off + m * 4, none⟩) hb).trans d0
              have e1 := (hB.out.cell (p := ⟨b, off + m * 4 + 1, none⟩) hb).trans d1
              have e2 := (hB.out.cell (p := ⟨b, off + m * 4 + 2, none⟩) hb).trans d2
              have e3 := (hB.out.cell (p := ⟨b, off + m * 4 + 3, none⟩) hb).trans d3
              have hwz := hB.out.size
              have hbw : b < wr.heap.size := Nat.lt_of_lt_of_le hb hwz
              have HS := hid (pre4_succ (E := (emitP (ts.map valNode))) (i := item) (s := s) (m := m) hlt2)
              obtain ⟨⟨j, hj, hje⟩, hvv⟩ := HLO.out (el s.fa m) (el_mem hlt2)
              rw [List.length_map] at hj
              obtain ⟨⟨t1, t2, t3, t4⟩, et⟩ : ∃ t, t = el s.fa m := ⟨_, rfl⟩
              rw [← et] at e0 e1 e2 e3 HS hvv hje
              dsimp only at e0 e1 e2 e3 HS hvv hje
              subst hje
              clear d0 d1 d2 d3 hc et
              by_cases h1 : t1 = item
              · rw [if_pos h1, Int.toNat_natCast] at HS
                have hd1 : (t1 == item) = true := by simpa using h1
                have hb0 := below1 wr (.cells #[.int .i64 t1, .int .i64 (j : Int), .int .i64 t3, .int .i64 t4] 107)
                have T0 := Bx.new (w := wr) [.int .i64 t1, .int .i64 (j : Int), .int .i64 t3, .int .i64 t4] 107 rfl
                obtain ⟨V, hV⟩ : ∃ V, V = wr.alloc (.cells #[.int .i64 t1, .int .i64 (j : Int), .int .i64 t3, .int .i64 t4] 107) := ⟨_, rfl⟩
                rw [← hV] at hb0 T0
                have HV := hid hV
                have HOV := hid (hO.out.below hb0)
                have HBV := hid (hB.out.trans (hb0.mono hwz))
                have hbV : wr.heap.size < V.heap.size := T0.size
                obtain ⟨EM, hEM⟩ : ∃ EM, EM = emitP (ts.map valNode) j t3 := ⟨_, rfl⟩
                have HLE : Hid ((pre4 (emitP (ts.map valNode)) item s m ++ EM).length ≤ 400) := by rw [Hid, hEM, ← HS.out]; exact pre4_le HA.out _
                have HEC := hid (fun V => HEM.out j t3 V hj hvv)
                rw [← hEM] at HS HEC
                have HSS : Hid (∀ (Y : World), Below V.heap.size V Y → Y.cell? ⟨p, 0, none⟩ = some (.slice (some ⟨gb, goff, none⟩) ts.length gc) ∧ Y.cell? ⟨wr.heap.size, 1, none⟩ = some (.int .i64 (j : Int)) ∧ Y.cell? ⟨wr.heap.size, 2, none⟩ = some (.int .i64 t3)) := fun Y hY => ⟨((HBV.out.trans (hY.mono HBV.out.size)).cell (p := ⟨p, 0, none⟩) hp).trans HC.out.1, (T0.later hY).c 1 rfl, (T0.later hY).c 2 rfl⟩
                have SV := hid (HSS.out V (Below.refl _ _))
                have HSG : Hid (∀ (Y Z : World), (Y.cell? ⟨p, 0, none⟩ = some (.slice (some ⟨gb, goff, none⟩) ts.length gc) ∧ Y.cell? ⟨wr.heap.size, 1, none⟩ = some (.int .i64 (j : Int)) ∧ Y.cell? ⟨wr.heap.size, 2, none⟩ = some (.int .i64 t3)) → V.heap.size ≤ Y.heap.size → Y.grownBy Z v.ownBlock → Z.cell? ⟨p, 0, none⟩ = some (.slice (some ⟨gb, goff, none⟩) ts.length gc) ∧ Z.cell? ⟨wr.heap.size, 1, none⟩ = some (.int .i64 (j : Int)) ∧ Z.cell? ⟨wr.heap.size, 2, none⟩ = some (.int .i64 t3)) := fun Y Z hY hzY hg => by
                  have hvp : v.ownBlock ≠ some p := fun e => by have := (own_block_lt hO.out e).1; omega
                  have hvt : v.ownBlock ≠ some wr.heap.size := fun e => by have := (own_block_lt hO.out e).2; omega
                  exact ⟨(World.cell?_of_block (a := ⟨p, 0, none⟩) (hg.block p (by omega) (fun e => hvp e.symm))).trans hY.1, (World.cell?_of_block (a := ⟨wr.heap.size, 1, none⟩) (hg.block wr.heap.size (by omega) (fun e => hvt e.symm))).trans hY.2.1, (World.cell?_of_block (a := ⟨wr.heap.size, 2, none⟩) (hg.block wr.heap.size (by omega) (fun e => hvt e.symm))).trans hY.2.2⟩
                clear hV hb0 T0 hO hB h1 hEM
                go_wp2_with fail
                rw [← HV.out]
                refine wp_walks (zl := []) (S := fun Y => Y.cell? ⟨p, 0, none⟩ = some (.slice (some ⟨gb, goff, none⟩) ts.length gc) ∧ Y.cell? ⟨wr.heap.size, 1, none⟩ = some (.int .i64 (j : Int)) ∧ Y.cell? ⟨wr.heap.size, 2, none⟩ = some (.int .i64 t3)) (by kernel_rfl) SV.out (fun hH => ?_)
                refine Walks.take (i := 0) (v := ?vb0) rfl (by kernel_rfl) (by kernel_rfl) (fun _ _ _ h => h) _ _ _ _ (by kernel_rfl) (by kernel_rfl) (Or.inl ⟨by rfl, ?hyb0⟩) hH ?restb0
                case hyb0 => (intro w' hSw; (try dsimp only at hSw); go_simp <;> with_reducible rfl)
                refine Walks.take (i := 1) (v := ?vb1) rfl (by kernel_rfl) (by kernel_rfl) (fun _ _ _ h => h) _ _ _ _ (by kernel_rfl) (by kernel_rfl) (Or.inl ⟨by rfl, ?hyb1⟩) hH ?restb1
                case hyb1 => (intro w' hSw; (try dsimp only at hSw); go_simp <;> with_reducible rfl)
                refine Walks.take (i := 2) (v := ?vb2) rfl (by kernel_rfl) (by kernel_rfl) (fun _ _ _ h => h) _ _ _ _ (by kernel_rfl) (by kernel_rfl) (Or.inl ⟨by rfl, ?hyb2⟩) hH ?restb2
                case hyb2 => (intro w' hSw; (try dsimp only at hSw); go_simp <;> with_reducible rfl)
                refine Walks.take (i := 3) (v := ?vb3) rfl (by kernel_rfl) (by kernel_rfl) (fun _ _ _ h => h) _ _ _ _ (by kernel_rfl) (by kernel_rfl) (Or.inl ⟨by rfl, ?hyb3⟩) hH ?restb3
                case hyb3 => (intro w' hSw; (try dsimp only at hSw); go_simp <;> with_reducible rfl)
                refine Walks.take (i := 4) (v := ?vb4) rfl (by kernel_rfl) (by kernel_rfl) (fun _ _ _ h => h) _ _ _ _ (by kernel_rfl) (by kernel_rfl) (Or.inl ⟨by rfl, ?hyb4⟩) hH ?restb4
                case hyb4 => (intro w' hSw; (try dsimp only at hSw); go_simp <;> with_reducible rfl)
                refine Walks.take (i := 5) (v := ?vb5) rfl (by kernel_rfl) (by kernel_rfl) (fun _ _ _ h => h) _ _ _ _ (by kernel_rfl) (by kernel_rfl) (Or.inl ⟨by rfl, ?hyb5⟩) hH ?restb5
                case hyb5 => (intro w' hSw; (try dsimp only at hSw); go_simp <;> with_reducible rfl)
                refine Walks.take (i := 6) (v := ?vb6) rfl (by kernel_rfl) (by kernel_rfl) (fun _ _ _ h => h) _ _ _ _ (by kernel_rfl) (by kernel_rfl) (Or.inl ⟨by rfl, ?hyb6⟩) hH ?restb6
                case hyb6 => (intro w' hSw; (try dsimp only at hSw); go_simp <;> with_reducible rfl)
                refine Walks.take (i := 7) (v := ?vb7) rfl (by kernel_rfl) (by kernel_rfl) (fun _ _ _ h => h) _ _ _ _ (by kernel_rfl) (by kernel_rfl) (Or.inl ⟨by rfl, ?hyb7⟩) hH ?restb7
                case hyb7 => (intro w' hSw; (try dsimp only at hSw); go_simp <;> with_reducible rfl)
                refine Walks.take (i := 8) (v := ?vb8) rfl (by kernel_rfl) (by kernel_rfl) (fun _ _ _ h => h) _ _ _ _ (by kernel_rfl) (by kernel_rfl) (Or.inl ⟨by rfl, ?hyb8⟩) hH ?restb8
                case hyb8 => (intro w' hSw; (try dsimp only at hSw); go_simp <;> with_reducible rfl)
                refine Walks.one (i := 9) (o := _) (by kernel_rfl) rfl (fun K hK => ?_)
                go_simp
                refine (HEC.out V.drew HBV.out.drew).mono ?_
                rintro e w2 ⟨⟨go, gc2, rfl, hno, hfr⟩, hb20⟩
                have HB2 := hid (HBV.out.drew.trans (hb20.mono (show W.heap.size ≤ V.drew.heap.size from HBV.out.size)))
                have S2 := HSS.out w2 ((Below.refl V.heap.size V).drew.trans hb20)
                have hz2 : V.heap.size ≤ w2.heap.size := hb20.size
                have HON := hid ((HOV.out.below (Below.refl _ _).drew).below hb20)
                have HIN := hid hfr.in
                clear hb20 hfr
                refine hK.out _ _ (fun _ => S2) (fun _ => ?_)
                clear hK K
                refine Walks.one (i := 10) (o := _) (by kernel_rfl) rfl (fun K hK => ?_)
                refine Kind.appZ kE_ok w2 (by rfl) (.tmp 84) (.tmp 93) (by rfl) W.heap.size v (pre4 (emitP (ts.map valNode)) item s m) (by rfl) HON.out HB2.out.size go EM EM.length gc2 (by rfl) rfl hno _ HIN.out (by have := HLE.out; rw [← List.length_append]; omega) ?_
                intro v' w5 hO5 hB5 hG5 hw5
                have S5 := HSG.out w2 w5 S2 hz2 hG5
                have HO5 := hid hO5
                have HB5 := hid (HB2.out.trans (hB5.mono (Nat.le_refl _)))
                clear hO5 hB5 hG5 hw5
                refine hK.out _ _ (fun _ => S5) (fun _ => ?_)
                clear hK K
                refine Walks.one (i := 11) (o := _) (by kernel_rfl) rfl (fun K hK => ?_)
                go_simp
                refine hK.out _ _ (fun _ => S5) (fun _ => ?_)
                clear hK K
                refine Walks.done (by kernel_rfl) ?_ _
                go_wp2
                go_roundw
                case rel => exact ⟨m + 1, v', rfl, by go_num, by omega, by rw [HS.out]; exact HO5.out, HB5⟩
                case measure => simp [intOf]; omega
              · rw [if_neg h1, List.append_nil] at HS
                have hd1 : (t1 == item) = false := by simpa using h1
                clear h1
                go_wp2
                go_roundw
                case rel => exact ⟨m + 1, _, rfl, by go_num, by omega, by rw [HS.out]; exact hO.out.below (below1 _ _), hB.out.trans ((below1 _ _).mono hwz)⟩
                case measure => simp [intOf]; omega
            · obtain rfl : m = s.fa.length := by omega
              rw [pre4_all] at hO
              go_wp2
              go_ret
              exact ⟨⟨_, rfl, hO.out⟩, hB.out⟩
end
section
open Go.RowKit

/-- The first stands ahead of the second: by node, then by value. -/
def ltE (a b : Int × Int) : Bool := decide (a.1 < b.1) || (a.1 == b.1 && decide (a.2 < b.2))
theorem ltE_no {a b : Int × Int} : ltE a b = false ↔ (b.1 < a.1 ∨ (a.1 = b.1 ∧ b.2 ≤ a.2)) := by
  simp [ltE]; omega
theorem ltE_yes {a b : Int × Int} : ltE a b = true ↔ (a.1 < b.1 ∨ (a.1 = b.1 ∧ a.2 < b.2)) := by
  simp [ltE]
theorem ltE_le {a b : Int × Int} (h : ltE a b = true) : ltE b a = false := by rw [ltE_no]; rw [ltE_yes] at h; omega
theorem ltE_trans {a b c : Int × Int} (h1 : ltE b a = false) (h2 : ltE c b = false) : ltE c a = false := by rw [ltE_no] at *; omega
theorem ltE_eq {a b : Int × Int} (h1 : ltE b a = false) (h2 : ltE a b = false) : a = b := by
  rw [ltE_no] at h1 h2; exact Prod.ext (by omega) (by omega)
/-- Emits sorted. -/
def sortE (l : List (Int × Int)) : List (Int × Int) := l.mergeSort fun x y => !ltE y x
theorem sortE_len (l : List (Int × Int)) : (sortE l).length = l.length := by simp [sortE]
theorem sortE_pair (l : List (Int × Int)) : (sortE l).Pairwise fun a b => ltE b a = false := by
  refine (List.pairwise_mergeSort (le := fun x y => !ltE y x) (fun a b c h1 h2 => ?_) (fun a b => ?_) l).imp fun h => by simpa using h
  · simp at h1 h2 ⊢; exact ltE_trans h1 h2
  · rcases h : ltE b a with _ | _
    · rfl
    · simp [ltE_le h]
theorem sorted_one : ∀ (l r : List (Int × Int)), l.Perm r → l.Pairwise (fun a b => ltE b a = false) → r.Pairwise (fun a b => ltE b a = false) → l = r
  | [], r, h, _, _ => by rw [List.nil_perm.1 h]
  | x :: l, [], h, _, _ => by have := List.perm_nil.1 h; cases this
  | x :: l, y :: r, h, hl, hr => by
    rw [List.pairwise_cons] at hl hr
    have e : x = y := by
      have h1 : x ∈ y :: r := h.mem_iff.1 (by simp)
      have h2 : y ∈ x :: l := h.mem_iff.2 (by simp)
      simp only [List.mem_cons] at h1 h2
      rcases h1 with h1 | h1
      · exact h1
      · rcases h2 with h2 | h2
        · exact h2.symm
        · exact ltE_eq (hl.1 y h2) (hr.1 x h1)
    subst e
    rw [sorted_one l r (List.Perm.cons_inv h) hl.2 hr.2]
theorem elS_same {l : List (Int × Int)} {i : Nat} {a : Int × Int} (h : i < l.length) : el (l.set i a) i = a := by simp [el, h]
theorem elS_other {l : List (Int × Int)} {i j : Nat} {a : Int × Int} (h : j ≠ i) : el (l.set i a) j = el l j := by simp [el, Ne.symm h]
/-- The places m and m + 1 changed. -/
def swapL (ys : List (Int × Int)) (m : Nat) : List (Int × Int) := (ys.set (m + 1) (el ys m)).set m (el ys (m + 1))
theorem swapL_len (ys : List (Int × Int)) (m : Nat) : (swapL ys m).length = ys.length := by simp [swapL]
theorem swapL_a {ys : List (Int × Int)} {m : Nat} (h : m + 1 < ys.length) : el (swapL ys m) m = el ys (m + 1) := by rw [swapL, elS_same (by simp; omega)]
theorem swapL_b {ys : List (Int × Int)} {m : Nat} (h : m + 1 < ys.length) : el (swapL ys m) (m + 1) = el ys m := by rw [swapL, elS_other (by omega), elS_same h]
theorem swapL_o {ys : List (Int × Int)} {m q : Nat} (h1 : q ≠ m) (h2 : q ≠ m + 1) : el (swapL ys m) q = el ys q := by rw [swapL, elS_other h1, elS_other h2]
theorem swapL_perm {ys : List (Int × Int)} {m : Nat} (h : m + 1 < ys.length) : (swapL ys m).Perm ys := by
  obtain ⟨A, p, q, R, hA, rfl⟩ : ∃ A p q R, A.length = m ∧ ys = A ++ p :: q :: R := by
    refine ⟨ys.take m, ys[m], ys[m + 1], ys.drop (m + 2), by simp; omega, ?_⟩
    rw [← List.drop_eq_getElem_cons h, ← List.drop_eq_getElem_cons (by omega : m < ys.length), List.take_append_drop]
  subst hA
  have e1 : el (A ++ p :: q :: R) A.length = p := by simp [el]
  have e2 : el (A ++ p :: q :: R) (A.length + 1) = q := by simp [el]
  rw [swapL, e1, e2]
  have : ((A ++ p :: q :: R).set (A.length + 1) p).set A.length q = A ++ q :: p :: R := by
    rw [List.set_append_right _ _ (by omega), List.set_append_right _ _ (by omega)]; simp
  rw [this]
  exact List.Perm.append_left A (List.Perm.swap _ _ _)
/-- Sorted up to i. -/
def SortTo (ys : List (Int × Int)) (i : Nat) : Prop := ∀ a b, a < b → b < i → ltE (el ys b) (el ys a) = false
/-- Sorted up to i with it, but for the place j. -/
def SortBut (ys : List (Int × Int)) (i j : Nat) : Prop := (∀ a b, a < b → b ≤ i → a ≠ j → b ≠ j → ltE (el ys b) (el ys a) = false) ∧ ∀ b, j < b → b ≤ i → ltE (el ys b) (el ys j) = false
theorem sort_start {ys : List (Int × Int)} {i : Nat} (h : SortTo ys i) : SortBut ys i i := ⟨fun a b h1 h2 _ h4 => h a b h1 (by omega), fun b h1 h2 => by omega⟩
theorem sort_stop0 {ys : List (Int × Int)} {i : Nat} (h : SortBut ys i 0) : SortTo ys (i + 1) := fun a b h1 h2 => by
  by_cases e : a = 0
  · subst e; exact h.2 b h1 (by omega)
  · exact h.1 a b h1 (by omega) e (by omega)
theorem sort_stop {ys : List (Int × Int)} {i m : Nat} (h : SortBut ys i (m + 1)) (hm : m + 1 ≤ i) (hle : ltE (el ys (m + 1)) (el ys m) = false) : SortTo ys (i + 1) := fun a b h1 h2 => by
  by_cases eb : b = m + 1
  · subst eb
    by_cases ea : a = m
    · subst ea; exact hle
    · exact ltE_trans (h.1 a m (by omega) (by omega) (by omega) (by omega)) hle
  · by_cases ea : a = m + 1
    · subst ea; exact h.2 b h1 (by omega)
    · exact h.1 a b h1 (by omega) ea eb
theorem sort_swap {ys : List (Int × Int)} {i m : Nat} (h : SortBut ys i (m + 1)) (hm : m + 1 ≤ i) (hi : i < ys.length) (hlt : ltE (el ys (m + 1)) (el ys m) = true) : SortBut (swapL ys m) i m := by
  have hb := swapL_b (ys := ys) (m := m) (by omega)
  refine ⟨fun a b h1 h2 h3 h4 => ?_, fun b h1 h2 => ?_⟩
  · by_cases eb : b = m + 1
    · subst eb
      rw [hb, swapL_o h3 (by omega)]
      exact h.1 a m (by omega) (by omega) (by omega) (by omega)
    · rw [swapL_o h4 eb]
      by_cases ea : a = m + 1
      · subst ea; rw [hb]; exact h.1 m b (by omega) h2 (by omega) eb
      · rw [swapL_o h3 ea]; exact h.1 a b h1 h2 ea eb
  · rw [swapL_a (by omega)]
    by_cases eb : b = m + 1
    · subst eb; rw [hb]; exact ltE_le hlt
    · rw [swapL_o (by omega) eb]; exact h.2 b (by omega) h2
theorem sorted_all {l zs : List (Int × Int)} (hp : l.Perm zs) (hs : SortTo l l.length) : l = sortE zs := by
  refine sorted_one _ _ (hp.trans (List.mergeSort_perm zs _).symm) ?_ (sortE_pair zs)
  rw [List.pairwise_iff_getElem]
  intro i j hi hj hij
  have h1 := hs i j hij hj
  rwa [el_at hi, el_at hj] at h1
theorem kE_flat_swap {ys : List (Int × Int)} {m : Nat} (hm : m + 1 < ys.length) :
    (((((kE.flat ys).set ((m + 1) * 2) (.int .i64 (el ys m).1)).set ((m + 1) * 2 + 1) (.int .i64 (el ys m).2)).set (m * 2) (.int .i64 (el ys (m + 1)).1)).set (m * 2 + 1) (.int .i64 (el ys (m + 1)).2)) = kE.flat (swapL ys m) := by
  have hfl : (kE.flat ys).length = ys.length * 2 := kE.flat_len ys
  refine kE.flat_of _ _ (by simp only [List.length_set, swapL_len]; exact hfl) fun j hj i hi => ?_
  have hi' : i < 2 := hi
  rw [swapL_len] at hj
  have hsz : kE.sz = 2 := rfl
  have ha := kE.flat_at ys j hj i hi
  rw [hsz] at ha ⊢
  rcases (show i = 0 ∨ i = 1 from by omega) with rfl | rfl
  · rw [show j * 2 + 0 = j * 2 from rfl] at ha ⊢
    by_cases e1 : j = m
    · subst e1
      rw [List.getElem?_set_ne (by omega), List.getElem?_set_self (by simp [hfl]; omega), swapL_a hm]; rfl
    · by_cases e2 : j = m + 1
      · subst e2
        rw [List.getElem?_set_ne (by omega), List.getElem?_set_ne (by omega), List.getElem?_set_ne (by omega), List.getElem?_set_self (by simp [hfl]; omega), swapL_b hm]; rfl
      · rw [List.getElem?_set_ne (by omega), List.getElem?_set_ne (by omega), List.getElem?_set_ne (by omega), List.getElem?_set_ne (by omega), swapL_o e1 e2]; exact ha
  · by_cases e1 : j = m
    · subst e1
      rw [List.getElem?_set_self (by simp [hfl]; omega), swapL_a hm]; rfl
    · by_cases e2 : j = m + 1
      · subst e2
        rw [List.getElem?_set_ne (by omega), List.getElem?_set_ne (by omega), List.getElem?_set_self (by simp [hfl]; omega), swapL_b hm]; rfl
      · rw [List.getElem?_set_ne (by omega), List.getElem?_set_ne (by omega), List.getElem?_set_ne (by omega), List.getElem?_set_ne (by omega), swapL_o e1 e2]; exact ha
theorem kE_stored {lo hi : Nat} {W : World} {g c : Nat} {ys : List (Int × Int)} (h : kE.Fresh lo hi W (some ⟨g, 0, none⟩) c ys) {m : Nat} (hm : m + 1 < ys.length) :
    kE.Fresh lo hi ((((W.setCell ⟨g, (m + 1) * 2, none⟩ (.int .i64 (el ys m).1)).setCell ⟨g, (m + 1) * 2 + 1, none⟩ (.int .i64 (el ys m).2)).setCell ⟨g, m * 2, none⟩ (.int .i64 (el ys (m + 1)).1)).setCell ⟨g, m * 2 + 1, none⟩ (.int .i64 (el ys (m + 1)).2)) (some ⟨g, 0, none⟩) c (swapL ys m) := by
  obtain ⟨g2, e2, hg1, hg2, hg3, ho⟩ := h.at (show 0 < ys.length by omega)
  simp at e2; subst e2
  have hs := ((((World.ownsRow.stored ho ((m + 1) * 2) (.int .i64 (el ys m).1)).1.stored ((m + 1) * 2 + 1) (.int .i64 (el ys m).2)).1.stored (m * 2) (.int .i64 (el ys (m + 1)).1)).1.stored (m * 2 + 1) (.int .i64 (el ys (m + 1)).2)).1
  refine .inr ⟨g, rfl, hg2, ?_⟩
  rw [kE_flat_swap hm] at hs
  rw [swapL_len]; exact hs
end
section
open Go.RowKit Go.Sort

theorem grownE_refl (W : World) : ∃ q os, W = grow (W.drewN q) os := ⟨0, #[], by rw [grow_empty]; rfl⟩
theorem grownE_trans {W V U : World} (h : ∃ q os, V = grow (W.drewN q) os) (k : ∃ q os, U = grow (V.drewN q) os) : ∃ q os, U = grow (W.drewN q) os := by
  obtain ⟨q, os, rfl⟩ := h
  obtain ⟨q', os', rfl⟩ := k
  exact ⟨q + q', os ++ os', by show grow (grow ((W.drewN q).drewN q') os) os' = _; rw [grow_grow, World.drewN_drewN]⟩
theorem grownE_alloc (W : World) (o : Obj) : ∃ q os, W.alloc o = grow (W.drewN q) os := ⟨0, #[o], by rw [alloc_eq_grow]; rfl⟩
theorem grownE_cell {W V : World} (h : ∃ q os, V = grow (W.drewN q) os) {a : Addr} {v : Value} (hb : a.block < W.heap.size) (hc : W.cell? a = some v) : V.cell? a = some v := by
  obtain ⟨q, os, rfl⟩ := h
  exact cell_grown hb hc q os
theorem grownE_size {W V : World} (h : ∃ q os, V = grow (W.drewN q) os) : W.heap.size ≤ V.heap.size := by
  obtain ⟨q, os, rfl⟩ := h
  rw [size_grow]; exact Nat.le_add_right _ _
theorem isNaN_is (x : Int) (w : World) : Calls Tryz.prog 152 #[.int .i64 x] w fun e w' => e = .returned (.bool false) ∧ w' = w := by
  have h : (x != x) = false := by simp
  go_enter Tryz.func152, Tryz.ntmps152
  go_wp2
  go_ret
  exact ⟨rfl, rfl⟩
/-- Below 0, 0 or above 0. -/
def cmpI (x y : Int) : Int := if x < y then -1 else if y < x then 1 else 0
set_option maxHeartbeats 1000000 in
theorem compare_is (x y : Int) (w : World) : Calls Tryz.prog 110 #[.int .i64 x, .int .i64 y] w fun e w' => e = .returned (.int .i64 (cmpI x y)) ∧ w' = w := by
  rcases (show (x < y) ∨ (y < x) ∨ (x = y) from by omega) with h | h | h
  · have e : cmpI x y = -1 := by simp [cmpI, h]
    rw [e]
    have g1 : decide (x < y) = true := by simpa using h
    clear e h
    go_enter Tryz.func110, Tryz.ntmps110
    go_wp2_with (go_at_call 152; refine (isNaN_is _ _).mono ?_; rintro e w1 ⟨rfl, rfl⟩)
    go_ret
    exact ⟨rfl, rfl⟩
  · have e : cmpI x y = 1 := by rw [cmpI, if_neg (by omega), if_pos h]
    rw [e]
    have g1 : decide (x < y) = false := by simp; omega
    have g2 : decide (y < x) = true := by simpa using h
    clear e h
    go_enter Tryz.func110, Tryz.ntmps110
    go_wp2_with (go_at_call 152; refine (isNaN_is _ _).mono ?_; rintro e w1 ⟨rfl, rfl⟩)
    go_ret
    exact ⟨rfl, rfl⟩
  · have e : cmpI x y = 0 := by rw [cmpI, if_neg (by omega), if_neg (by omega)]
    rw [e]
    have g1 : decide (x < y) = false := by simp; omega
    have g2 : decide (y < x) = false := by simp; omega
    clear e h
    go_enter Tryz.func110, Tryz.ntmps110
    go_wp2_with (go_at_call 152; refine (isNaN_is _ _).mono ?_; rintro e w1 ⟨rfl, rfl⟩)
    go_ret
    exact ⟨rfl, rfl⟩
theorem byNode_is (x1 x2 : Int) (W : World) : Calls Tryz.prog 82 #[.agg #[.int .i64 x1, .int .i64 x2]] W fun e w' => e = .returned (.int .i64 x1) ∧ ∃ q os, w' = grow (W.drewN q) os := by
  go_enter Tryz.func82, Tryz.ntmps82
  go_wp2
  go_ret
  exact ⟨rfl, grownE_alloc _ _⟩
theorem byValue_is (x1 x2 : Int) (W : World) : Calls Tryz.prog 83 #[.agg #[.int .i64 x1, .int .i64 x2]] W fun e w' => e = .returned (.int .i64 x2) ∧ ∃ q os, w' = grow (W.drewN q) os := by
  go_enter Tryz.func83, Tryz.ntmps83
  go_wp2
  go_ret
  exact ⟨rfl, grownE_alloc _ _⟩
/-- By node, then by value. -/
def cmpE (x y : Int × Int) : Int := if cmpI x.1 y.1 = 0 then cmpI x.2 y.2 else cmpI x.1 y.1
theorem Calls.same_grown {f : FuncId} {args : Array Value} {W : World} {v : Value} (h : Calls Tryz.prog f args W fun e w' => e = .returned v ∧ w' = W) : Calls Tryz.prog f args W fun e w' => e = .returned v ∧ ∃ q os, w' = grow (W.drewN q) os :=
  h.mono fun _ _ ⟨he, hw⟩ => ⟨he, by rw [hw]; exact grownE_refl W⟩
set_option maxHeartbeats 4000000 in
theorem cmpCl_any (x1 x2 y1 y2 : Int) (kb kr : Nat) (W : World) (hb : kb < W.heap.size) (hr : kr < W.heap.size) (hk : W.cell? ⟨kb, 0, none⟩ = some (.slice (some ⟨kr, 0, none⟩) 2 2)) (h0 : W.cell? ⟨kr, 0, none⟩ = some (.func (.func 82) #[] #[])) (h1 : W.cell? ⟨kr, 1, none⟩ = some (.func (.func 83) #[] #[])) :
    Calls Tryz.prog 109 #[.agg #[.int .i64 x1, .int .i64 x2], .agg #[.int .i64 y1, .int .i64 y2], .pointer (some ⟨kb, 0, none⟩)] W fun e w' => e = .returned (.int .i64 (cmpE (x1, x2) (y1, y2))) ∧ ∃ q os, w' = grow (W.drewN q) os := by
  obtain ⟨V, hV⟩ : ∃ V, V = (W.alloc (.cells #[.int .i64 x1, .int .i64 x2] 101)).alloc (.cells #[.int .i64 y1, .int .i64 y2] 101) := ⟨_, rfl⟩
  have hG : ∃ q os, V = grow (W.drewN q) os := by rw [hV]; exact grownE_trans (grownE_alloc _ _) (grownE_alloc _ _)
  have XA : Hid (Bx V W.heap.size [.int .i64 x1, .int .i64 x2]) := by rw [hV]; exact (Bx.new [.int .i64 x1, .int .i64 x2] _ rfl).alloc _
  have XB : Hid (Bx V (W.heap.size + 1) [.int .i64 y1, .int .i64 y2]) := by rw [hV]; exact Bx.new [.int .i64 y1, .int .i64 y2] _ (by simp)
  have hsz : V.heap.size = W.heap.size + 1 + 1 := by rw [hV]; simp
  have k0 := grownE_cell hG (a := ⟨kr, 0, none⟩) hr h0
  have k1 := grownE_cell hG (a := ⟨kr, 1, none⟩) hr h1
  have kk := grownE_cell hG (a := ⟨kb, 0, none⟩) hb hk
  have a0 := XA.out.c 0 rfl
  have a1 := XA.out.c 1 rfl
  have b0 := XB.out.c 0 rfl
  have b1 := XB.out.c 1 rfl
  have HV := hid hV
  have HG := hid hG
  have HSZ := hid hsz
  clear hV hG h0 h1 XA XB
  go_enter Tryz.func109, Tryz.ntmps109
  go_wp2
  rw [← HV.out]
  clear hk
  go_loopw [11] (fun i wr => ∃ k : Nat, i = .int .i64 (k : Int) ∧ k ≤ 2 ∧ Hid (1 ≤ k → cmpI x1 y1 = 0) ∧ Hid (2 ≤ k → cmpI x2 y2 = 0) ∧ Hid (∃ q os, wr = grow (V.drewN q) os)) (fun i _ => 2 - (intOf i).toNat)
  case atStart => exact ⟨0, rfl, by omega, fun h => by omega, fun h => by omega, grownE_refl V⟩
  case round =>
    obtain ⟨k, rfl, hk, hc1, hc2, hw⟩ := hrel
    have r0 := grownE_cell hw.out (a := ⟨kr, 0, none⟩) (by simp only [hsz]; omega) k0
    have r1 := grownE_cell hw.out (a := ⟨kr, 1, none⟩) (by simp only [hsz]; omega) k1
    have rk := grownE_cell hw.out (a := ⟨kb, 0, none⟩) (by simp only [hsz]; omega) kk
    have ra0 := cell_grown (a := ⟨W.heap.size, 0, none⟩) (by have := grownE_size hw.out; simp only; omega) (grownE_cell hw.out (a := ⟨W.heap.size, 0, none⟩) (by simp only [hsz]; omega) a0)
    have ra1 := cell_grown (a := ⟨W.heap.size, 1, none⟩) (by have := grownE_size hw.out; simp only; omega) (grownE_cell hw.out (a := ⟨W.heap.size, 1, none⟩) (by simp only [hsz]; omega) a1)
    have rb0 := cell_grown (a := ⟨W.heap.size + 1, 0, none⟩) (by have := grownE_size hw.out; simp only; omega) (grownE_cell hw.out (a := ⟨W.heap.size + 1, 0, none⟩) (by simp only [hsz]; omega) b0)
    have rb1 := cell_grown (a := ⟨W.heap.size + 1, 1, none⟩) (by have := grownE_size hw.out; simp only; omega) (grownE_cell hw.out (a := ⟨W.heap.size + 1, 1, none⟩) (by simp only [hsz]; omega) b1)
    have e1 := fun W' => Calls.same_grown (compare_is x1 y1 W')
    have e2 := fun W' => Calls.same_grown (compare_is x2 y2 W')
    clear hsz
    have mixed : Tryz.prog.follows .mixedOrders = true := by kernel_rfl
    rcases (show k = 0 ∨ k = 1 ∨ k = 2 from by omega) with h | h | h
    · have H := hid h
      have rc : wr.cell? ⟨kr, k, none⟩ = some (.func (.func 82) #[] #[]) := by rw [h]; exact r0
      have hlt : (k : Int) < 2 := by omega
      clear h r0 r1
      by_cases hz : cmpI x1 y1 = 0
      · have hz' : (cmpI x1 y1 != 0) = false := by simp [hz]
        have HZ := hid hz
        clear hz
        obtain ⟨d, hd⟩ : ∃ d, d = cmpI x1 y1 := ⟨_, rfl⟩
        rw [← hd] at hz' e1
        have HD := hid hd
        clear hd
        go_wp2_with fail
        go_quiet_grown (first | (go_at_call 82; exact Calls.grown_of (byNode_is _ _ _)) | (go_at_call 110; exact Calls.grown_of (e1 _)))
        have hw2 := hid (grownE_trans hw.out ⟨nq, osq, rfl⟩)
        clear ra0 ra1 rb0 rb1
        go_wp2
        go_roundw
        case rel => exact ⟨k + 1, by go_num, by have := H.out; omega, fun _ => HZ.out, fun h => by have := H.out; omega, hw2⟩
        case measure => simp [intOf]; have := H.out; omega
      · have hz' : (cmpI x1 y1 != 0) = true := by simp [hz]
        have HZ := hid hz
        clear hz
        obtain ⟨d, hd⟩ : ∃ d, d = cmpI x1 y1 := ⟨_, rfl⟩
        rw [← hd] at hz' e1
        have HD := hid hd
        clear hd
        go_wp2_with fail
        go_quiet_grown (first | (go_at_call 82; exact Calls.grown_of (byNode_is _ _ _)) | (go_at_call 110; exact Calls.grown_of (e1 _)))
        have hw2 := hid (grownE_trans hw.out ⟨nq, osq, rfl⟩)
        clear ra0 ra1 rb0 rb1
        go_wp2
        go_ret
        exact ⟨ret_int (by rw [HD.out, cmpE]; exact (if_neg HZ.out).symm), grownE_trans HG.out hw2.out⟩
    · have H := hid h
      have rc : wr.cell? ⟨kr, k, none⟩ = some (.func (.func 83) #[] #[]) := by rw [h]; exact r1
      have hlt : (k : Int) < 2 := by omega
      clear h r0 r1
      by_cases hz : cmpI x2 y2 = 0
      · have hz' : (cmpI x2 y2 != 0) = false := by simp [hz]
        have HZ := hid hz
        clear hz
        obtain ⟨d, hd⟩ : ∃ d, d = cmpI x2 y2 := ⟨_, rfl⟩
        rw [← hd] at hz' e2
        have HD := hid hd
        clear hd
        go_wp2_with fail
        go_quiet_grown (first | (go_at_call 83; exact Calls.grown_of (byValue_is _ _ _)) | (go_at_call 110; exact Calls.grown_of (e2 _)))
        have hw2 := hid (grownE_trans hw.out ⟨nq, osq, rfl⟩)
        clear ra0 ra1 rb0 rb1
        go_wp2
        go_roundw
        case rel => exact ⟨k + 1, by go_num, by have := H.out; omega, fun _ => hc1.out (by have := H.out; omega), fun h => HZ.out, hw2⟩
        case measure => simp [intOf]; have := H.out; omega
      · have hz' : (cmpI x2 y2 != 0) = true := by simp [hz]
        have HZ := hid hz
        clear hz
        obtain ⟨d, hd⟩ : ∃ d, d = cmpI x2 y2 := ⟨_, rfl⟩
        rw [← hd] at hz' e2
        have HD := hid hd
        clear hd
        go_wp2_with fail
        go_quiet_grown (first | (go_at_call 83; exact Calls.grown_of (byValue_is _ _ _)) | (go_at_call 110; exact Calls.grown_of (e2 _)))
        have hw2 := hid (grownE_trans hw.out ⟨nq, osq, rfl⟩)
        clear ra0 ra1 rb0 rb1
        go_wp2
        go_ret
        exact ⟨ret_int (by rw [HD.out, cmpE]; exact (if_pos (hc1.out (by have := H.out; omega))).symm), grownE_trans HG.out hw2.out⟩
    · have H := hid h
      have hlt : ¬ (k : Int) < 2 := by omega
      clear h
      go_wp2
      go_ret
      exact ⟨ret_int (by rw [cmpE]; dsimp only; rw [if_pos (hc1.out (by have := H.out; omega)), hc2.out (by have := H.out; omega)]), grownE_trans HG.out hw.out⟩
end
end Go.Proofs.YtoeonbdoopboiaaGreatDoor
