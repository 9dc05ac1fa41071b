/- The order of a graph: the program. No conditions but those written. The order of a graph: the program's loop. No conditions but those written. What is wrong with a graph: the program. No conditions but those written. Rows of tokens, of outs, of losts: sizes, copies, comparisons. No conditions but those written. Rows of rows of tokens: sizes, copies, comparisons. No conditions but those written. Hands: rows of tokens of their own behind one row of heads. No conditions but those written. Pipes: sizes, copies, comparisons. No conditions but those written. A flow in memory. No conditions but those written. Counting atomically. No conditions but those written. A region that draws its order, walked once: what yields the same wherever S holds comes first; behind the last operations S need not hold. No conditions but those written. A token is put into a box. No conditions but those written. A graph in its own memory; what is put behind it and what is written into it. No conditions but those written. The draws' cursor: a text among texts. No conditions but those written. A drawn region by hand: where two may come up. No conditions but those written. A drawn region by hand: where three may come up. No conditions but those written. -/
import Derived.Test.YtebnapgcobcilaaGreatDoorPXrWi
import Derived.Test.YtebnapgcobcilaaGreatDoorPGenSg
import Derived.Laws.LoneSync
import Derived.Laws.BitsLemmas
import Derived.OrdersHeld
import Derived.Deep.RegionHeld3
import Derived.Deep.RegionLawGrows
namespace Go.Proofs.YtebnapgcobcilaaGreatDoor
section
open Go.RowKit

/-- A row of ints in its own memory, as an ending. -/
def AnsI (w : World) (q : List Int) (e : Ending) (w' : World) : Prop := (∃ go qc, e = .returned (.slice go q.length qc) ∧ kI.Fresh w.heap.size w'.heap.size w' go qc q) ∧ Below w.heap.size w w'
/-- The numbers from 0 on. -/
def numsI (n : Nat) : List Int := (List.range n).map fun k : Nat => (k : Int)
theorem numsI_len (n : Nat) : (numsI n).length = n := by simp [numsI]
theorem numsI_succ (n : Nat) : numsI (n + 1) = numsI n ++ [(n : Int)] := by simp [numsI, List.range_succ]
theorem numsI_mem {n : Nat} {x : Int} (h : x ∈ numsI n) : ∃ k : Nat, k < n ∧ x = (k : Int) := by
  simp only [numsI, List.mem_map, List.mem_range] at h
  obtain ⟨k, hk, rfl⟩ := h
  exact ⟨k, hk, rfl⟩
set_option maxHeartbeats 4000000 in
theorem numbersOf_any (ao : Option Addr) (cap n : Nat) (w : World) (hl : n ≤ 1048576) :
    Calls Tryz.prog 39 #[.slice ao n cap] w fun e w' => AnsI w (numsI n) e w' := by
  go_enter Tryz.func39, Tryz.ntmps39
  go_wp2
  go_loopw [3, 7] (fun u i wr => ∃ (k : Nat) (v : Value), v = u ∧ k ≤ n ∧ i = .int .i64 k ∧ Hid (kI.Own w.heap.size wr v (numsI k)) ∧ Below w.heap.size w wr) (fun _ i _ => n - (intOf i).toNat)
  case atStart => exact ⟨0, _, rfl, Nat.zero_le _, rfl, Kind.Own.nil _ _ _, Below.refl _ _⟩
  case round =>
    obtain ⟨k, v, rfl, hk, rfl, hO, hB⟩ := hrel
    by_cases hlt : k < n
    · have hs := hB.size
      have HA : Hid (kI.Own w.heap.size (wr.alloc (.cells #[.int .i64 (k : Int)] 3)) v (numsI k)) := hO.out.below (below1 _ _)
      have HN : Hid (kI.In (wr.heap.size + 1) (wr.alloc (.cells #[.int .i64 (k : Int)] 3)) (some ⟨wr.heap.size, 0, none⟩) [(k : Int)]) := int_one (by omega) (by simp)
      have hll : (numsI k).length + 1 ≤ 4194304 := by rw [numsI_len]; omega
      have hBa : Below w.heap.size w (wr.alloc (.cells #[.int .i64 (k : Int)] 3)) := Below.allocS hB _
      go_wp2_with (at_builtin; refine Kind.app kI_ok (wr.alloc (.cells #[.int .i64 (k : Int)] 3)) rfl (.tmp 10) (.tmp 12) rfl w.heap.size v (numsI k) rfl HA.out (by simp; omega) (some ⟨wr.heap.size, 0, none⟩) [(k : Int)] 1 1 rfl rfl (by simp) _ HN.out hll ?_; intro v' w' hO' hB' hG' hn'; have hB2 : Below w.heap.size w w' := hBa.trans (hB'.mono (by omega)); have HO' : Hid (kI.Own w.heap.size w' v' (numsI (k + 1))) := (by rw [Hid, numsI_succ]; exact hO'); clear hO' hB' hG' hn')
      go_roundw
      case rel => exact ⟨k + 1, v', rfl, by omega, by go_num, HO', hB2⟩
      case measure => simp [intOf]; omega
    · obtain rfl : k = n := by omega
      obtain ⟨qo, qc, rfl, _, hF⟩ := hO.out.fresh
      have HF := hid hF
      clear hF hO
      rw [numsI_len]
      go_wp2
      go_ret
      exact ⟨⟨_, _, by rw [numsI_len]; rfl, HF.out⟩, hB⟩
/-- One node leads to another. -/
def leadsP (gs : List PNode) (a b : Int) : Bool := hasB (el gs a.toNat).2.2.2.2.2 b
/-- One of these leads to it. -/
def ledP (gs : List PNode) (l : List Int) (b : Int) : Bool := l.any fun a => leadsP gs a b
/-- Each time the first to which none leads. -/
def behindP (gs : List PNode) : Nat → List Int → List Int → List Int × List Int
  | 0, o, l => (o, l)
  | n + 1, o, l => match l.findIdx? (fun b => !ledP gs l b) with
    | none => (o, l)
    | some k => behindP gs n (o ++ [el l k]) (l.take k ++ l.drop (k + 1))
set_option maxHeartbeats 2000000 in
theorem leads_is (pg : Nat) (ao : Option Addr) (cap : Nat) (ts : List LNode) (k : Nat) (b : Int) (w : World) (hk : k < ts.length) (hF : FitN ts) (hG : GrIn w pg ao cap ts) :
    Calls Tryz.prog 40 #[.int .i64 (k : Int), .int .i64 b, .pointer (some ⟨pg, 0, none⟩)] w fun e w' => e = .returned (.bool (leadsP (ts.map valNode) k b)) ∧ Below w.heap.size w w' := by
  have HG := hid hG
  have hki : (k : Int) < (ts.length : Int) := by omega
  clear hG
  obtain ⟨bb, off, rfl, hb, hc⟩ := hNode_at HG.out.rows.1 hk
  have d6 := (hc k hk).2.2.2.2.2
  have hfk := hF _ (el_mem hk)
  have hev := el_val hk
  have hin := HG.out.rows.2 k hk
  obtain ⟨⟨nm, kd, sa, sb, cp, ⟨nxo, nxc, nx⟩⟩, ex⟩ : ∃ v, v = el ts k := ⟨_, rfl⟩
  rw [← ex] at d6 hfk hev hin
  have E1 : Hid (leadsP (ts.map valNode) k b = hasB nx b) := by rw [Hid, leadsP, Int.toNat_natCast, hev]; rfl
  have HI : Hid (kI.In w.heap.size w nxo nx) := hin
  have c0 := HG.out.box.c 0 rfl
  clear hc hev hin
  dsimp only at d6 hfk
  go_enter Tryz.func40, Tryz.ntmps40
  go_wp2_with fail
  refine (contains_is w.heap.size nxo nxc nx b w (hasB nx b) hfk.2 HI.out rfl).mono ?_
  rintro e w1 ⟨rfl, rfl⟩
  go_wp2
  go_ret
  exact ⟨ret_bool E1.out.symm, Below.refl _ _⟩
theorem Tryz.entersLd : ∀ args w, (callFunc 40 args).run Tryz.prog w = .ok (.enter 40 args) w := enters_of Tryz.func40 (by kernel_rfl) rfl
theorem Tryz.entersB1 : ∀ args w, (callFunc 63 args).run Tryz.prog w = .ok (.enter 63 args) w := enters_of Tryz.func63 (by kernel_rfl) rfl
theorem Tryz.entersB2 : ∀ args w, (callFunc 65 args).run Tryz.prog w = .ok (.enter 65 args) w := enters_of Tryz.func65 (by kernel_rfl) rfl
set_option maxHeartbeats 2000000 in
theorem behind2_is (pg pl pt : Nat) (ao : Option Addr) (cap : Nat) (ts : List LNode) (k : Nat) (b : Int) (w : World) (hk : k < ts.length) (hF : FitN ts) (hG : GrIn w pg ao cap ts) (hL : w.cell? ⟨pl, 0, none⟩ = some (.func (.func 40) #[] #[.pointer (some ⟨pg, 0, none⟩)])) (hT : w.cell? ⟨pt, 0, none⟩ = some (.int .i64 b)) :
    Calls Tryz.prog 65 #[.int .i64 (k : Int), .pointer (some ⟨pl, 0, none⟩), .pointer (some ⟨pt, 0, none⟩)] w fun e w' => e = .returned (.bool (leadsP (ts.map valNode) k b)) ∧ Below w.heap.size w w' := by
  have hcon := leads_is pg ao cap ts k b w hk hF hG
  clear hG
  go_enter Tryz.func65, Tryz.ntmps65
  go_wp2_with fail
  refine hcon.mono ?_
  rintro e w1 ⟨rfl, hb1⟩
  go_wp2
  go_ret
  exact ⟨rfl, hb1⟩
set_option maxHeartbeats 2000000 in
theorem behind1_is (pg pl pq : Nat) (ao : Option Addr) (cap : Nat) (ts : List LNode) (lo : Option Addr) (lc : Nat) (l : List Int) (b : Int) (w : World) (hl : l.length ≤ 1048576) (hv : ∀ x ∈ l, ∃ k : Nat, k < ts.length ∧ x = (k : Int)) (hF : FitN ts) (hG : GrIn w pg ao cap ts) (hL : Bx w pl [.func (.func 40) #[] #[.pointer (some ⟨pg, 0, none⟩)]]) (hQ : Bx w pq [.slice lo l.length lc]) (hz : kI.In w.heap.size w lo l) :
    Calls Tryz.prog 63 #[.int .i64 b, .pointer (some ⟨pq, 0, none⟩), .pointer (some ⟨pl, 0, none⟩)] w fun e w' => e = .returned (.bool (!ledP (ts.map valNode) l b)) ∧ Below w.heap.size w w' := by
  obtain ⟨V, hV⟩ : ∃ V, V = w.alloc (.cells #[.int .i64 b] 3) := ⟨_, rfl⟩
  have hb : Below w.heap.size w V := by rw [hV]; exact below1 _ _
  have hX : Bx V w.heap.size [.int .i64 b] := by rw [hV]; exact Bx.new [.int .i64 b] _ rfl
  have hcon := containsFuncI_any 65 #[.pointer (some ⟨pl, 0, none⟩), .pointer (some ⟨w.heap.size, 0, none⟩)] Tryz.entersB2 lo lc l (fun a => leadsP (ts.map valNode) a b) V hl (hz.later hb) (fun x W hx hW => by
    obtain ⟨k, hk, rfl⟩ := hv x hx
    exact behind2_is pg pl w.heap.size ao cap ts k b W hk hF ((hG.later hb).later hW) (((hL.later hb).later hW).c 0 rfl) ((hX.later hW).c 0 rfl))
  have hq := (hQ.later hb).c 0 rfl
  have q0 := hQ.c 0 rfl
  have hqs := hQ.size
  have HV := hid hV
  have HB := hid hb
  clear hV hX hz hb hQ hL hG hv
  go_enter Tryz.func63, Tryz.ntmps63
  go_wp2_with fail
  rw [← HV.out]
  refine hcon.mono ?_
  rintro e w1 ⟨rfl, hb1⟩
  have hB1 : Below w.heap.size w w1 := HB.out.trans (hb1.mono HB.out.size)
  clear hb1
  go_wp2
  go_ret
  exact ⟨rfl, hB1⟩
end
section
open Go.RowKit

def lenOf : Value → Nat | .slice _ n _ => n | _ => 0
theorem in_grown {W W' : World} {ro : Option Nat} {lo : Option Addr} {l : List Int} (hG : W.grownBy W' ro) (hz : kI.In W.heap.size W lo l) (hs : 0 < l.length → ∀ b off, lo = some ⟨b, off, none⟩ → ro ≠ some b) : kI.In W'.heap.size W' lo l := by
  rcases Nat.eq_zero_or_pos l.length with h0 | h0
  · exact .inl (List.length_eq_zero_iff.1 h0)
  rcases hz with h | ⟨b, off, e, hb, hc⟩
  · exact .inl h
  · exact .inr ⟨b, off, e, Nat.lt_of_lt_of_le hb hG.size, fun j hj i hi => (World.cell?_of_block (a := ⟨b, off + j * kI.sz + i, none⟩) (hG.block b hb (Ne.symm (hs h0 b off e)))).trans (hc j hj i hi)⟩
theorem behindP_len (gs : List PNode) : ∀ (n : Nat) (o l : List Int), (behindP gs n o l).1.length ≤ o.length + n
  | 0, o, l => Nat.le_refl _
  | n + 1, o, l => by
    rw [behindP]
    cases l.findIdx? (fun b => !ledP gs l b) with
    | none => simp
    | some k =>
      have := behindP_len gs n (o ++ [el l k]) (l.take k ++ l.drop (k + 1))
      simp only [List.length_append, List.length_singleton] at this ⊢
      omega
theorem own_lt {lo : Nat} {W : World} {v : Value} {xs : List Int} (h : kI.Own lo W v xs) {g : Nat} (hg : v.ownBlock = some g) : g < W.heap.size := by
  rcases h.2 with ⟨e, _⟩ | ⟨g', cap', cur, e, hb, hh, r⟩
  · rw [e] at hg; simp [Value.ownBlock] at hg
  · rw [e] at hg
    simp [Value.ownBlock] at hg
    subst hg
    exact (Array.getElem?_eq_some_iff.1 hh).1
theorem own_slice {lo : Nat} {W : World} {v : Value} {xs : List Int} (h : kI.Own lo W v xs) : ∃ go qc, v = .slice go xs.length qc := by
  obtain ⟨go, qc, e, _⟩ := h.fresh
  exact ⟨go, qc, e⟩
set_option maxRecDepth 10000 in
set_option maxHeartbeats 8000000 in
theorem eachBehind_any (pg : Nat) (ao : Option Addr) (cap : Nat) (ts : List LNode) (zo : Option Addr) (zc : Nat) (zs : List Int) (w : World) (hl : zs.length ≤ 1048576) (hv : ∀ x ∈ zs, ∃ k : Nat, k < ts.length ∧ x = (k : Int)) (hF : FitN ts) (hG : GrIn w pg ao cap ts) (hz : kI.In w.heap.size w zo zs) (R : List Int) (hR : (behindP (ts.map valNode) zs.length [] zs).1 = R) :
    Calls Tryz.prog 38 #[.slice zo zs.length zc, .func (.func 40) #[] #[.pointer (some ⟨pg, 0, none⟩)]] w fun e w' => AnsI w R e w' := by
  obtain ⟨V, hV⟩ : ∃ V, V = (w.alloc (.cells #[.func (.func 40) #[] #[.pointer (some ⟨pg, 0, none⟩)]] 67)).alloc (.cells #[.slice zo zs.length zc] 26) := ⟨_, rfl⟩
  have hb : Below w.heap.size w V := by rw [hV]; exact below2 _ _ _
  have hX : Bx V w.heap.size [.func (.func 40) #[] #[.pointer (some ⟨pg, 0, none⟩)]] := by rw [hV]; exact (Bx.new [.func (.func 40) #[] #[.pointer (some ⟨pg, 0, none⟩)]] _ rfl).alloc _
  have hY : Bx V (w.heap.size + 1) [.slice zo zs.length zc] := by rw [hV]; exact Bx.new [.slice zo zs.length zc] _ (by simp)
  have hs : V.heap.size = w.heap.size + 1 + 1 := by rw [hV]; simp
  have HV := hid hV
  have HX := hid hX
  have HY := hid hY
  have HG := hid hG
  have HZ := hid (hz.later hb)
  have HVV := hid hv
  have HR := hid hR
  have HS := hid hs
  have HB := hid hb
  have HZ0 := hid hz
  clear hV hX hY hG hz hv hR hs hb
  go_enter Tryz.func38, Tryz.ntmps38
  go_wp2
  rw [← HV.out]
  go_loopw [5] (fun u wr => ∃ (v : Value) (o l : List Int) (qo : Option Addr) (qc : Nat), v = u ∧ o.length + l.length = zs.length ∧ Hid (kI.Own (w.heap.size + 1 + 1) wr v o) ∧ Hid (Bx wr w.heap.size [.func (.func 40) #[] #[.pointer (some ⟨pg, 0, none⟩)]]) ∧ Hid (Bx wr (w.heap.size + 1) [.slice qo l.length qc]) ∧ Hid (kI.In wr.heap.size wr qo l) ∧ Hid (∀ x ∈ l, ∃ k : Nat, k < ts.length ∧ x = (k : Int)) ∧ Hid ((behindP (ts.map valNode) l.length o l).1 = R) ∧ Hid (0 < l.length → ∀ b off, qo = some ⟨b, off, none⟩ → v.ownBlock ≠ some b) ∧ Below w.heap.size w wr ∧ w.heap.size + 1 + 1 ≤ wr.heap.size) (fun u _ => zs.length - lenOf u)
  case atStart => exact ⟨.slice none 0 0, [], zs, zo, zc, rfl, by simp, Kind.Own.nil _ _ _, HX, HY, HZ, HVV, HR, fun _ b off _ h => by simp [Value.ownBlock] at h, HB.out, by have := HS.out; omega⟩
  case round =>
    obtain ⟨v, o, l, qo, qc, rfl, hol, hO, hX, hY, hZ, hV', hR', hSp, hB, hsz⟩ := hrel
    clear HX HY HZ HVV HR HS HB HV
    obtain ⟨go, gc, rfl⟩ := own_slice hO.out
    have hG := hid (HG.out.later hB)
    have hcon := indexFuncI_any 63 #[.pointer (some ⟨w.heap.size + 1, 0, none⟩), .pointer (some ⟨w.heap.size, 0, none⟩)] Tryz.entersB1 qo qc l (fun b => !ledP (ts.map valNode) l b) wr (by omega) hZ.out (fun x W _ hW => behind1_is pg w.heap.size (w.heap.size + 1) ao cap ts qo qc l x W (by omega) hV'.out hF (hG.out.later hW) (hX.out.later hW) (hY.out.later hW) (hZ.out.later hW))
    have y0 := hY.out.c 0 rfl
    cases hp : l.findIdx? (fun b => !ledP (ts.map valNode) l b) with
    | none =>
      have hf : fidx (fun b => !ledP (ts.map valNode) l b) l = -1 := by rw [fidx, hp]
      rw [hf] at hcon
      have HE : Hid (o = R) := by
        rw [Hid, ← hR'.out]
        cases l with
        | nil => rfl
        | cons x r => rw [List.length_cons, behindP, hp]
      clear hp hf
      go_wp2_with (go_at_call 48; refine hcon.mono ?_; rintro e w1 ⟨rfl, hb1⟩; have hB1 : Below w.heap.size w w1 := hB.trans (hb1.mono hB.size); have O1 := hid (hO.out.below hb1); clear hb1)
      go_ret
      obtain ⟨go', gc', e1, _, hFF⟩ := O1.out.fresh
      obtain ⟨rfl, rfl⟩ : go = go' ∧ gc = gc' := by simp at e1; exact e1
      rw [← HE.out]
      exact ⟨⟨go, gc, rfl, hFF.wide (by omega) (Nat.le_refl _)⟩, hB1⟩
    | some k =>
      have hkl : k < l.length := by
        rw [List.findIdx?_eq_some_iff_getElem] at hp
        exact hp.1
      have hf : fidx (fun b => !ledP (ts.map valNode) l b) l = (k : Int) := by rw [fidx, hp]
      rw [hf] at hcon
      have HE : Hid ((behindP (ts.map valNode) (l.take k ++ l.drop (k + 1)).length (o ++ [el l k]) (l.take k ++ l.drop (k + 1))).1 = R) := by
        rw [Hid, ← hR'.out]
        have e1 : (l.take k ++ l.drop (k + 1)).length = l.length - 1 := by simp; omega
        obtain ⟨m, hm⟩ : ∃ m, l.length = m + 1 := ⟨l.length - 1, by omega⟩
        rw [e1, hm, Nat.add_sub_cancel, behindP, hp]
      clear hp hf
      obtain ⟨bq, oq, rfl, hbq, hcq⟩ := ints_at hZ.out hkl
      have cq := hcq k hkl
      obtain ⟨x, hx⟩ : ∃ x, x = el l k := ⟨_, rfl⟩
      rw [← hx] at cq
      have HX2 := hid hx
      clear hx hcq
      have hkl' : (k : Int) < (l.length : Int) := by omega
      obtain ⟨l2, hl2⟩ : ∃ l2, l2 = l.take k ++ l.drop (k + 1) := ⟨_, rfl⟩
      obtain ⟨o2, ho2⟩ : ∃ o2, o2 = o ++ [x] := ⟨_, rfl⟩
      have hlen2 : o2.length + l2.length = zs.length := by rw [hl2, ho2]; simp; omega
      have hleno : o2.length = o.length + 1 := by rw [ho2]; simp
      have HLO := hid (And.intro hlen2 hleno)
      rw [← hl2, ← HX2.out, ← ho2] at HE
      have HL2 := hid hl2
      have HO2 := hid ho2
      clear hl2 ho2 hlen2 hleno
      go_wp2_with (first
        | (go_at_call 48; refine hcon.mono ?_; rintro e w1 ⟨rfl, hb1⟩; have hB1 : Below w.heap.size w w1 := hB.trans (hb1.mono hB.size); have hs1 : wr.heap.size ≤ w1.heap.size := hb1.size; have O1 : Hid (kI.Own (w.heap.size + 1 + 1) (w1.alloc (.cells #[.int .i64 x] 3)) (.slice go o.length gc) o) := ((hO.out.below hb1).below (below1 _ _)); have X1 := hid ((hX.out.later hb1).later (below1 w1 (.cells #[.int .i64 x] 3))); have Y1 := hid ((hY.out.later hb1).later (below1 w1 (.cells #[.int .i64 x] 3))); have Z1 := hid ((hZ.out.later hb1).later (below1 w1 (.cells #[.int .i64 x] 3))); have HN : Hid (kI.In (w1.heap.size + 1) (w1.alloc (.cells #[.int .i64 x] 3)) (some ⟨w1.heap.size, 0, none⟩) [x]) := int_one (by omega) (by simp); have y1 := (hY.out.later hb1).c 0 rfl; have c1 := (hb1.cell (p := ⟨bq, oq + k, none⟩) hbq).trans cq; clear hb1 y0 cq)
        | (at_builtin; refine Kind.appN kI_ok (w1.alloc (.cells #[.int .i64 x] 3)) rfl (.tmp 15) (.tmp 20) rfl (w.heap.size + 1 + 1) (.slice go o.length gc) o rfl O1.out (by simp; omega) (some ⟨w1.heap.size, 0, none⟩) [x] 1 1 rfl rfl (by simp) _ HN.out (by simp; omega) ?_; intro v2 w2 hO2 hB2 hG2 hw2; rw [← HO2.out] at hO2; obtain ⟨g2, c2, rfl⟩ := own_slice hO2; have hBa : Below w.heap.size w w2 := (Below.allocS hB1 _).trans (hB2.mono (by omega)); have O2 := hid hO2; have X2 := hid (X1.out.below hB2 (by omega)); have Y2 := hid (Y1.out.below hB2 (by omega)); have Z2 := hid (in_grown hG2 Z1.out hSp.out); have y2 := Y2.out.c 0 rfl; have hs2 : w1.heap.size + 1 ≤ w2.heap.size := (by have := hB2.size; simpa using this); clear hO2 hB2 hG2 hw2))
      refine (queueOfI_any (some ⟨bq, oq, none⟩) qc l w2 (by omega) Z2.out).mono ?_
      rintro e w3 ⟨⟨t3, rfl, hF3⟩, hb3⟩
      have hB3 := hBa.trans (hb3.mono hBa.size)
      have O3 := hid (O2.out.below hb3)
      have X3 := hid (X2.out.later hb3)
      have Y3 := hid (Y2.out.later hb3)
      have hs3 := hb3.size
      have F3 := hid hF3
      clear hb3 hF3 y2
      go_wp2_with fail
      refine (withoutI_any t3 l.length l (k : Int) w3 (by omega) F3.out.in l2 (by rw [HL2.out]; exact (keepE_range l k hkl).symm)).mono ?_
      rintro e w4 ⟨⟨g4, c4, rfl, hF4⟩, hb4⟩
      have hB4 := hB3.trans (hb4.mono hB3.size)
      have O4 := hid (O3.out.below hb4)
      have X4 := hid (X3.out.later hb4)
      have Y4 := hid (Y3.out.later hb4)
      have hs4 := hb4.size
      have F4 := hid hF4
      have y4 := Y4.out.c 0 rfl
      have yf4 := Y4.out.f 0 rfl
      have hol2 := own_lt (g := bq) O2.out
      clear hb4 hF4
      have O5 := hid (O4.out.setBelow (a := ⟨w.heap.size + 1, 0, none⟩) (by simp) (.slice g4 l2.length c4))
      have X5 := hid (X4.out.other (a := ⟨w.heap.size + 1, 0, none⟩) (by simp) (.slice g4 l2.length c4))
      have Y5 := hid (Y4.out.set 0 (.slice g4 l2.length c4))
      have Z5 := hid ((F4.out.setBelow (a := ⟨w.heap.size + 1, 0, none⟩) (by simp only; omega) (.slice g4 l2.length c4)).in)
      have V5 : Hid (∀ x ∈ l2, ∃ k : Nat, k < ts.length ∧ x = (k : Int)) := fun y hy => hV'.out y (by
        rw [HL2.out] at hy
        rcases List.mem_append.1 hy with h | h
        · exact List.mem_of_mem_take h
        · exact List.mem_of_mem_drop h)
      have S5 : Hid (0 < l2.length → ∀ b off, g4 = some ⟨b, off, none⟩ → Value.ownBlock (.slice g2 o2.length c2) ≠ some b) := fun h0 b off e h => by
        have h1 := own_lt O3.out h
        rcases F4.out with h2 | ⟨g5, e5, _, ho5⟩
        · rw [h2] at h0; simp at h0
        · rw [e] at e5
          simp at e5
          have h3 := (owns_lt ho5).1
          omega
      have B5 : Below w.heap.size w (w4.setCell ⟨w.heap.size + 1, 0, none⟩ (.slice g4 l2.length c4)) := hB4.setCell (p := ⟨w.heap.size + 1, 0, none⟩) (by simp) _
      clear HZ0
      go_wp2
      rename_i _ _ hKK
      refine hKK _ _ ?_
      go_wp2
      go_roundw
      case rel => exact ⟨_, o2, l2, g4, c4, rfl, HLO.out.1, O5, X5, Y5, Z5, V5, HE, S5, B5, by simp [World.setCell]; omega⟩
      case measure => have := HLO.out; simp [lenOf]; omega
/-- The order of a graph, as far as it goes. -/
def orderP (gs : List PNode) : List Int := (behindP gs gs.length [] (numsI gs.length)).1
set_option maxHeartbeats 2000000 in
theorem orderIn_any (ao : Option Addr) (cap : Nat) (ts : List LNode) (w : World) (hl : ts.length ≤ 1048576) (hF : FitN ts) (hz : DIn dNode w.heap.size w ao ts) :
    Calls Tryz.prog 17 #[.slice ao ts.length cap] w fun e w' => AnsI w (orderP (ts.map valNode)) e w' := by
  obtain ⟨V, hV⟩ : ∃ V, V = w.alloc (.cells #[.slice ao ts.length cap] 23) := ⟨_, rfl⟩
  have hb : Below w.heap.size w V := by rw [hV]; exact below1 _ _
  have hX : Bx V w.heap.size [.slice ao ts.length cap] := by rw [hV]; exact Bx.new [.slice ao ts.length cap] _ rfl
  have HG : Hid (GrIn V w.heap.size ao cap ts) := ⟨hX, hz.later dNode_ok hb⟩
  have HV := hid hV
  have HB := hid hb
  clear hV hX hz hb
  go_enter Tryz.func17, Tryz.ntmps17
  go_wp2_with fail
  rw [← HV.out]
  refine (numbersOf_any ao cap ts.length V hl).mono ?_
  rintro e w1 ⟨⟨go, qc, rfl, hF1⟩, hb1⟩
  have hB1 : Below w.heap.size w w1 := HB.out.trans (hb1.mono HB.out.size)
  have G1 := hid (HG.out.later hb1)
  have F1 := hid hF1
  clear hb1 hF1
  go_wp2_with fail
  refine (eachBehind_any w.heap.size ao cap ts go qc (numsI ts.length) w1 (by rw [numsI_len]; exact hl) (fun x hx => numsI_mem hx) hF G1.out F1.out.in (orderP (ts.map valNode)) (by rw [orderP, numsI_len, List.length_map])).mono ?_
  rintro e w2 ⟨⟨g2, c2, rfl, hF2⟩, hb2⟩
  have hB2 := hB1.trans (hb2.mono hB1.size)
  have F2 := hid (hF2.wide (lo' := w.heap.size) (hi' := w2.heap.size) hB1.size (Nat.le_refl _))
  clear hb2 hF2
  go_wp2
  go_ret
  exact ⟨⟨_, _, rfl, F2.out⟩, hB2⟩
end
section
open Go.RowKit

/-- An error of the program's own. -/
abbrev errV (a : Addr) : Value := .iface 153 (.pointer (some a))
/-- Where each error lies. -/
def gbl (i : Nat) : Nat :=
  match i with
  | 0 => 0
  | 1 => 1
  | 2 => 2
  | 3 => 3
  | 4 => 4
  | 5 => 5
  | _ => 6
theorem gbl_lt (i : Nat) : gbl i < 7 := by unfold gbl; split <;> decide
/-- The errors that the program holds. -/
structure Errs (W : World) (ea : Nat → Addr) : Prop where
  cell : ∀ i, i < 7 → W.cell? ⟨gbl i, 0, none⟩ = some (errV (ea i))
  size : 7 ≤ W.heap.size
theorem Errs.below {n : Nat} {W W' : World} {ea : Nat → Addr} (h : Errs W ea) (hb : Below n W W') (hn : 7 ≤ n) : Errs W' ea :=
  ⟨fun i hi => (hb.cell (p := ⟨gbl i, 0, none⟩) (Nat.lt_of_lt_of_le (gbl_lt i) hn)).trans (h.cell i hi), Nat.le_trans h.size hb.size⟩
theorem Errs.later {W W' : World} {ea : Nat → Addr} (h : Errs W ea) (hb : Below W.heap.size W W') : Errs W' ea := h.below hb h.size
theorem Errs.c0 {W : World} {ea : Nat → Addr} (h : Errs W ea) : W.cell? ⟨0, 0, none⟩ = some (errV (ea 0)) := h.cell 0 (by omega)
theorem Errs.c1 {W : World} {ea : Nat → Addr} (h : Errs W ea) : W.cell? ⟨1, 0, none⟩ = some (errV (ea 1)) := h.cell 1 (by omega)
theorem Errs.c2 {W : World} {ea : Nat → Addr} (h : Errs W ea) : W.cell? ⟨2, 0, none⟩ = some (errV (ea 2)) := h.cell 2 (by omega)
theorem Errs.c3 {W : World} {ea : Nat → Addr} (h : Errs W ea) : W.cell? ⟨3, 0, none⟩ = some (errV (ea 3)) := h.cell 3 (by omega)
theorem Errs.c4 {W : World} {ea : Nat → Addr} (h : Errs W ea) : W.cell? ⟨4, 0, none⟩ = some (errV (ea 4)) := h.cell 4 (by omega)
theorem Errs.c5 {W : World} {ea : Nat → Addr} (h : Errs W ea) : W.cell? ⟨5, 0, none⟩ = some (errV (ea 5)) := h.cell 5 (by omega)
theorem Errs.c6 {W : World} {ea : Nat → Addr} (h : Errs W ea) : W.cell? ⟨6, 0, none⟩ = some (errV (ea 6)) := h.cell 6 (by omega)
/-- The tests, one behind the other. -/
def prule (gs : List PNode) (i : Nat) (x : Int) : Bool :=
  match i with
  | 0 => !nameB (el gs x.toNat).1
  | 1 => (gs.take x.toNat).any fun y => sameT y.1 (el gs x.toNat).1
  | 2 => !goodSt (el gs x.toNat).2.1 (el gs x.toNat).2.2.1 (el gs x.toNat).2.2.2.1
  | 3 => decide ((el gs x.toNat).2.2.2.2.1 < 3) || decide (8 < (el gs x.toNat).2.2.2.2.1)
  | _ => !goodNx (el gs x.toNat).2.2.2.2.2 gs.length
def fno (i : Nat) : Nat :=
  match i with
  | 0 => 71
  | 1 => 73
  | 2 => 75
  | 3 => 77
  | _ => 78
theorem fno_enters (i : Nat) : ∀ args w, (callFunc (fno i) args).run Tryz.prog w = .ok (.enter (fno i) args) w := by
  unfold fno
  split
  · exact enters_of Tryz.func71 (by kernel_rfl) rfl
  · exact enters_of Tryz.func73 (by kernel_rfl) rfl
  · exact enters_of Tryz.func75 (by kernel_rfl) rfl
  · exact enters_of Tryz.func77 (by kernel_rfl) rfl
  · exact enters_of Tryz.func78 (by kernel_rfl) rfl
/-- A graph whose rows have room for what they hold, in a row that has it too. -/
structure Roomy (ts : List LNode) (cap : Nat) : Prop where
  row : ts.length ≤ cap
  next : CapN ts
  fit : FitN ts
  len : ts.length ≤ 1048576
theorem rule_is (i p : Nat) (ao : Option Addr) (cap : Nat) (ts : List LNode) (k : Nat) (w : World) (hk : k < ts.length) (hC : Roomy ts cap) (hG : GrIn w p ao cap ts) :
    Calls Tryz.prog (fno i) #[.int .i64 (k : Int), .pointer (some ⟨p, 0, none⟩)] w fun e w' => e = .returned (.bool (prule (ts.map valNode) i (k : Int))) ∧ Below w.heap.size w w' := by
  have e : ((k : Int)).toNat = k := Int.toNat_natCast k
  unfold fno prule
  rw [e]
  split
  · exact rule1_is p ao cap ts k w hk hC.len hC.fit hG
  · exact rule2_is p ao cap ts k w hk hC.len hC.fit hG hC.row
  · exact rule3_is p ao cap ts k w hk hC.len hC.fit hG
  · exact rule4_is p ao cap ts k w hk hC.len hC.fit hG
  · exact rule5_is p ao cap ts k w hk hC.len hC.fit hG hC.next
theorem ruleIdx_any (i p : Nat) (ao : Option Addr) (cap : Nat) (ts : List LNode) (zo : Option Addr) (zc : Nat) (w : World) (hC : Roomy ts cap) (hG : GrIn w p ao cap ts) (hz : kI.In w.heap.size w zo (numsI ts.length)) :
    Calls Tryz.prog 48 #[.slice zo ts.length zc, .func (.func (fno i)) #[] #[.pointer (some ⟨p, 0, none⟩)]] w fun e w' => e = .returned (.int .i64 (fidx (prule (ts.map valNode) i) (numsI ts.length))) ∧ Below w.heap.size w w' := by
  have h := indexFuncI_any (fno i) #[.pointer (some ⟨p, 0, none⟩)] (fno_enters i) zo zc (numsI ts.length) (prule (ts.map valNode) i) w (by rw [numsI_len]; exact hC.len) hz (fun x W hx hW => by
    obtain ⟨k, hk, rfl⟩ := numsI_mem hx
    exact rule_is i p ao cap ts k W hk hC (hG.later hW))
  rw [numsI_len] at h
  exact h
/-- The rules, as they lie in memory. -/
def rulesV (ea : Nat → Addr) (p : Nat) : List Value := [errV (ea 1), .func (.func (fno 0)) #[] #[.pointer (some ⟨p, 0, none⟩)], errV (ea 2), .func (.func (fno 1)) #[] #[.pointer (some ⟨p, 0, none⟩)], errV (ea 3), .func (.func (fno 2)) #[] #[.pointer (some ⟨p, 0, none⟩)], errV (ea 4), .func (.func (fno 3)) #[] #[.pointer (some ⟨p, 0, none⟩)], errV (ea 5), .func (.func (fno 4)) #[] #[.pointer (some ⟨p, 0, none⟩)]]
set_option maxRecDepth 10000 in
set_option maxHeartbeats 2000000 in
theorem rulesOf_any (ao : Option Addr) (cap : Nat) (ts : List LNode) (ea : Nat → Addr) (w : World) (hE : Errs w ea) (hz : DIn dNode w.heap.size w ao ts) :
    Calls Tryz.prog 47 #[.slice ao ts.length cap] w fun e w' => ∃ rb p, e = .returned (.slice (some ⟨rb, 0, none⟩) 5 5) ∧ Bx w' rb (rulesV ea p) ∧ GrIn w' p ao cap ts ∧ Below w.heap.size w w' := by
  obtain ⟨V, hV⟩ : ∃ V, V = w.alloc (.cells #[.slice ao ts.length cap] 23) := ⟨_, rfl⟩
  have hb : Below w.heap.size w V := by rw [hV]; exact below1 _ _
  have hX : Bx V w.heap.size [.slice ao ts.length cap] := by rw [hV]; exact Bx.new [.slice ao ts.length cap] _ rfl
  obtain ⟨U, hU⟩ : ∃ U, U = V.alloc (.cells (rulesV ea w.heap.size).toArray 74) := ⟨_, rfl⟩
  have hb2 : Below V.heap.size V U := by rw [hU]; exact below1 _ _
  have hR : Bx U V.heap.size (rulesV ea w.heap.size) := by rw [hU]; exact Bx.new (rulesV ea w.heap.size) _ rfl
  have hs : V.heap.size = w.heap.size + 1 := by rw [hV]; simp
  have HG : Hid (GrIn U w.heap.size ao cap ts) := GrIn.later ⟨hX, hz.later dNode_ok hb⟩ hb2
  have HB := hid (hb.trans (hb2.mono hb.size))
  have HU : Hid (U = (w.alloc (.cells #[.slice ao ts.length cap] 23)).alloc (.cells (rulesV ea w.heap.size).toArray 74)) := by rw [Hid, hU, hV]
  have HR := hid hR
  have e1 := hE.c1
  have e2 := hE.c2
  have e3 := hE.c3
  have e4 := hE.c4
  have e5 := hE.c5
  have h7 := hE.size
  have l1 : 1 < w.heap.size := by omega
  have l2 : 2 < w.heap.size := by omega
  have l3 : 3 < w.heap.size := by omega
  have l4 : 4 < w.heap.size := by omega
  have l5 : 5 < w.heap.size := by omega
  have l6 : 6 < w.heap.size := by omega
  rw [hs] at HR
  simp only [errV] at e1 e2 e3 e4 e5
  clear hU hV hR hX hz hb hb2 hs hE
  go_enter Tryz.func47, Tryz.ntmps47
  go_wp2
  go_ret
  refine ⟨w.heap.size + 1, w.heap.size, rfl, ?_, ?_, ?_⟩
  · have h := HR.out; rw [HU.out] at h; exact h
  · have h := HG.out; rw [HU.out] at h; exact h
  · have h := HB.out; rw [HU.out] at h; exact h
end
section
open Go.RowKit
end
section
open Go.RowKit

section
variable {lo hi : Nat} {W W' : World} {ao : Option Addr} {c : Nat} {hs : List (Option Addr × Nat × Nat)} {ls : List (List (Int × Int × Int))}
end
/-- How many there are in all. -/
def totT (ls : List (List (Int × Int × Int))) : Nat := (ls.map List.length).sum
theorem totT_nil : totT [] = 0 := rfl
theorem totT_take {ls : List (List (Int × Int × Int))} {k : Nat} (h : k < ls.length) : totT (ls.take (k + 1)) = totT (ls.take k) + (el ls k).length := by
  rw [take_succ_el h]; simp [totT]
theorem totT_le (ls : List (List (Int × Int × Int))) (k : Nat) : totT (ls.take k) ≤ totT ls := by
  induction ls generalizing k with
  | nil => simp [totT]
  | cons x r ih =>
    cases k with
    | zero => simp [totT]
    | succ k => simp only [List.take_succ_cons, totT, List.map_cons, List.sum_cons]; have := ih k; simp only [totT] at this; omega
theorem totT_el {ls : List (List (Int × Int × Int))} {k : Nat} (h : k < ls.length) : totT (ls.take k) + (el ls k).length ≤ totT ls := by
  rw [← totT_take h]; exact totT_le ls _
end
section
open Go.RowKit

theorem el_set_same {α : Type} [Inhabited α] {l : List α} {k : Nat} {x : α} (h : k < l.length) : el (l.set k x) k = x := by simp [el, h]
theorem el_set_far {α : Type} [Inhabited α] {l : List α} {k j : Nat} {x : α} (h : j ≠ k) : el (l.set k x) j = el l j := by simp [el, Ne.symm h]
theorem own_block_lt {α : Type} {K : Kind α} {lo : Nat} {W : World} {v : Value} {xs : List α} (h : K.Own lo W v xs) {b : Nat} (hb : v.ownBlock = some b) : lo ≤ b ∧ b < W.heap.size := by
  rcases h.2 with ⟨e, _⟩ | ⟨g, cap, cur, e, hg, hh, _⟩
  · subst e; simp [Value.ownBlock] at hb
  · subst e; simp [Value.ownBlock] at hb; subst hb; exact ⟨hg, (Array.getElem?_eq_some_iff.1 hh).1⟩
theorem own_keep {α : Type} {K : Kind α} {lo : Nat} {W W' : World} {v : Value} {xs : List α} (h : K.Own lo W v xs) (hk : ∀ b, v.ownBlock = some b → W'.heap[b]? = W.heap[b]?) : K.Own lo W' v xs := by
  obtain ⟨h1, h2⟩ := h
  refine ⟨h1, ?_⟩
  rcases h2 with h2 | ⟨g, cap, cur, e, hg, hh, r⟩
  · exact .inl h2
  · refine .inr ⟨g, cap, cur, e, hg, ?_, r⟩
    rw [hk g (by subst e; rfl)]; exact hh
/-- Rows of other elements lie in other blocks. -/
theorem own_ty {α β : Type} {K : Kind α} {K2 : Kind β} {lo lo2 : Nat} {W : World} {v u : Value} {xs : List α} {ys : List β} (h : K.Own lo W v xs) (h2 : K2.Own lo2 W u ys) (hne : K.ty ≠ K2.ty) {b : Nat} (hb : v.ownBlock = some b) : u.ownBlock ≠ some b := fun hb2 => by
  rcases h.2 with ⟨e, _⟩ | ⟨g, cap, cur, e, _, hh, _⟩
  · subst e; simp [Value.ownBlock] at hb
  · rcases h2.2 with ⟨e2, _⟩ | ⟨g2, cap2, cur2, e2, _, hh2, _⟩
    · subst e2; simp [Value.ownBlock] at hb2
    · subst e e2
      simp [Value.ownBlock] at hb hb2
      subst hb hb2
      rw [hh] at hh2
      simp at hh2
      exact hne hh2.2
/-- The heads are read out of the values. -/
def hdr : Value → Option Addr × Nat × Nat
  | .slice o n c => (o, n, c)
  | _ => (none, 0, 0)
theorem el_map {α β : Type} [Inhabited α] [Inhabited β] (f : α → β) {l : List α} {j : Nat} (h : j < l.length) : el (l.map f) j = f (el l j) := by simp [el, h]
end
section
open Go.RowKit

section
variable {lo hi n : Nat} {W W' : World} {ao : Option Addr} {c : Nat} {ls : List (List (Int × Int × Int))}
end
end
section
open Go.RowKit

/-- What a pipe holds. -/
structure PP where
  ti : Int
  it : Int
  cl : Bool
  bx : List (List (Int × Int × Int))
  em : List (Int × Int × Int)
  fa : List (Int × Int × Int × Int)
  fu : List Int
/-- The blocks of a flow. -/
def FO (p bb : Nat) (xs : List Value) (ev fv uv : Value) (b : Nat) : Prop := b = p ∨ b = bb ∨ (∃ j, j < xs.length ∧ (el xs j).ownBlock = some b) ∨ ev.ownBlock = some b ∨ fv.ownBlock = some b ∨ uv.ownBlock = some b
theorem own_ne_head {α : Type} {K : Kind α} {lo g n lo2 : Nat} {T : TypeId} {W : World} {v : Value} {xs : List α} {cs : List Value} (h : K.Own lo W v xs) (hr : W.ownsRow lo2 T 1 (.slice (some ⟨g, 0, none⟩) n n) n cs) (hne : K.ty ≠ T) : v.ownBlock ≠ some g := fun hb => by
  rcases h.2 with ⟨e, _⟩ | ⟨g1, cap, cur, e, _, hh, _⟩
  · subst e; simp [Value.ownBlock] at hb
  · rcases hr.2 with ⟨e2, _⟩ | ⟨g2, cap2, cur2, e2, _, hh2, _⟩
    · simp at e2
    · subst e
      simp [Value.ownBlock] at hb
      simp at e2
      rw [hb] at hh
      rw [← e2.1, hh] at hh2
      simp at hh2
      exact hne hh2.2
theorem own_low {α : Type} {K : Kind α} {lo lo' : Nat} {W : World} {v : Value} {xs : List α} (h : K.Own lo W v xs) (hl : lo' ≤ lo) : K.Own lo' W v xs := by
  obtain ⟨h1, h2⟩ := h
  refine ⟨h1, ?_⟩
  rcases h2 with h2 | ⟨g, cap, cur, e, hg, r⟩
  · exact .inl h2
  · exact .inr ⟨g, cap, cur, e, Nat.le_trans hl hg, r⟩
theorem totT_cons (x : List (Int × Int × Int)) (r : List (List (Int × Int × Int))) : totT (x :: r) = x.length + totT r := by simp [totT]
theorem totT_set : ∀ {ls : List (List (Int × Int × Int))} {k : Nat} (x : List (Int × Int × Int)), k < ls.length → totT (ls.set k x) + (el ls k).length = totT ls + x.length
  | [], _, _, h => by simp at h
  | y :: r, 0, x, _ => by rw [List.set_cons_zero, totT_cons, totT_cons]; simp only [el, List.getElem?_cons_zero, Option.getD_some]; omega
  | y :: r, k + 1, x, h => by
    have ih := totT_set (ls := r) (k := k) x (by simpa using h)
    have e : el (y :: r) (k + 1) = el r k := by simp [el]
    rw [List.set_cons_succ, totT_cons, totT_cons, e]; omega
end
section
open Go.RowKit
end
section
open Go Go.RowKit

section
variable {P : Program} {ops : Array Oper} {Q : Exit → Act → World → Prop} {md : Region.Mode} {S : World → Prop} {zs : Nat → Bool}
/-- In whatever order: behind each operation S holds, but behind the last ones. -/
def Walks (P : Program) (md : Region.Mode) (ops : Array Oper) (Q : Exit → Act → World → Prop) (S : World → Prop) (zs : Nat → Bool) : Nat → Array Bool → Act → World → Prop
  | 0, ls, a, w => Region.ready md ops ls = [] ∧ Q .normal a w
  | n + 1, ls, a, w => (Region.ready md ops ls = [] → Q .normal a w) ∧
      ∀ i, i ∈ Region.ready md ops ls → wpOp P ops Q i (fun b y => (zs i = false → S y) ∧ Walks P md ops Q S zs n (ls.setIfInBounds i true) b y) a w
theorem Walks.any : ∀ {n : Nat} {ls : Array Bool} {a : Act} {w : World}, Walks P md ops Q S zs n ls a w → wpAny P md ops Q n ls a w
  | 0, _, _, _, h => h
  | _ + 1, _, _, _, h => ⟨h.1, fun i hi => wpOp_mono (fun _ _ hb => hb.2.any) (h.2 i hi)⟩
/-- Whoever is last waits for i. -/
def lastWait (md : Region.Mode) (ops : Array Oper) (zs : List Nat) (i : Nat) : Bool := zs.all fun z => match ops[z]? with | some o => o.after.any fun e => Region.binds md e && e.on == i | none => true
theorem lastWait_not {zl : List Nat} {i j : Nat} {ls : Array Bool} (h : lastWait md ops zl i = true) (hi : i ∈ Region.ready md ops ls) (hj : j ∈ Region.ready md ops ls) : zl.contains j = false := by
  cases hc : zl.contains j with
  | false => rfl
  | true =>
    exfalso
    obtain ⟨_, o, ho, hall⟩ := mem_ready.1 hj
    have h1 := List.all_eq_true.1 h j (by simpa using hc)
    rw [ho] at h1
    obtain ⟨k, hk, he⟩ := Array.any_eq_true.1 h1
    simp only [Bool.and_eq_true, beq_iff_eq] at he
    have h2 := hall _ (Array.getElem_mem hk) he.1
    have h0 := (mem_ready.1 hi).1
    rw [he.2] at h2
    rcases Nat.lt_or_ge i ls.size with hl | hl
    · simp [hl] at h0 h2; rw [h0] at h2; cases h2
    · simp [Array.getElem?_eq_none hl] at h2
/-- An operation that yields the same in every world that meets S may come first. -/
theorem Walks.take {zl : List Nat} {i : Nat} {oi : Oper} {v : Value} (ho : ops[i]? = some oi) (hs : Region.noSelect ops = true) (hl : lastWait md ops zl i = true) (hQ : ∀ c a w, Q (.panic c) (a.put oi.dst v) w → Q (.panic c) a w) :
    ∀ (n : Nat) (ls : Array Bool) (a : Act) (w : World), Region.free md ops ls i = true → (Region.ready md ops ls).contains i = true → YieldsIf P ops S oi v a → S w →
      Walks P md ops Q S (zl.contains ·) n (ls.setIfInBounds i true) (a.put oi.dst v) w → Walks P md ops Q S (zl.contains ·) (n + 1) ls a w := by
  suffices H : ∀ (n : Nat) (ls : Array Bool) (a : Act) (w : World), (∀ j o, ops[j]? = some o → j ≠ i → ls.getD j true = false → (∀ e ∈ o.after, Region.binds md e = true → e.on ≠ i) → oi.apart ops o = true) → i ∈ Region.ready md ops ls → YieldsIf P ops S oi v a → S w →
      Walks P md ops Q S (zl.contains ·) n (ls.setIfInBounds i true) (a.put oi.dst v) w → Walks P md ops Q S (zl.contains ·) (n + 1) ls a w from
    fun n ls a w hf hr => H n ls a w (Region.free_spec ho hf) (by simpa using hr)
  have hsel := Region.noSelect_spec hs
  intro n
  induction n with
  | zero =>
    intro ls a w _ hr hy hS h
    refine ⟨fun e => (by rw [e] at hr; cases hr), fun j hj => ?_⟩
    rcases Decidable.em (j = i) with rfl | hne
    · exact hy.wpOp ho hS ⟨fun _ => hS, h⟩
    · have hm := ready_mono hj hne
      rw [h.1] at hm; cases hm
  | succ n ih =>
    intro ls a w hf hr hy hS h
    refine ⟨fun e => (by rw [e] at hr; cases hr), fun j hj => ?_⟩
    rcases Decidable.em (j = i) with rfl | hne
    · exact hy.wpOp ho hS ⟨fun _ => hS, h⟩
    have hz := lastWait_not hl hr hj
    obtain ⟨hun, oj, hoj, hall⟩ := mem_ready.1 hj
    have hno : ∀ e ∈ oj.after, Region.binds md e = true → e.on ≠ i := fun e he hb hon => by
      have h2 := hall e he hb
      have h0 := (mem_ready.1 hr).1
      rw [hon] at h2
      rcases Nat.lt_or_ge i ls.size with hl | hl
      · simp [hl] at h0 h2; rw [h0] at h2; cases h2
      · simp [Array.getElem?_eq_none hl] at h2
    refine wpOp_mono (fun b y hb => ?_) (wpOp_putIf hoj (hf j oj hoj hne hun hno) (fun c d => hsel i oi c d ho) (fun c d => hsel j oj c d hoj) hQ hy (h.2 j (ready_mono hj hne)))
    obtain ⟨hy2, hS2, h2⟩ := hb
    refine ⟨fun _ => hS2 hz, ih _ b y (fun k ok hk hki hku hkn => hf k ok hk hki ?_ hkn) (ready_mono hr (Ne.symm hne)) hy2 (hS2 hz) (by rw [Array.setIfInBounds_comm _ _ hne]; exact h2)⟩
    rcases Decidable.em (j = k) with rfl | hjk
    · exact hun
    · rw [getD_set_ne true hjk] at hku; exact hku
theorem Walks.one {n i : Nat} {ls : Array Bool} {a : Act} {w : World} {o : Oper} (hr : Region.ready md ops ls = [i]) (ho : ops[i]? = some o)
    (h : ∀ K : Act → World → Prop, Shut (∀ b y, (zs i = false → S y) → ((zs i = false → S y) → Walks P md ops Q S zs n (ls.setIfInBounds i true) b y) → K b y) → if Region.wanted o (yielded ops a.tmps) = true then Oper.wp P o a w K Q else K (a.put o.dst undef) w) : Walks P md ops Q S zs (n + 1) ls a w :=
  ⟨fun e => (by rw [hr] at e; cases e), fun j hj => by
    rw [hr] at hj
    obtain rfl := List.mem_singleton.1 hj
    exact wpOp_step ho fun K hK => h K fun b y h1 h2 => hK b y ⟨h1, h2 h1⟩⟩
theorem Walks.done {ls : Array Bool} {a : Act} {w : World} (hr : Region.ready md ops ls = []) (h : Q .normal a w) : ∀ n, Walks P md ops Q S zs n ls a w
  | 0 => ⟨hr, h⟩
  | _ + 1 => ⟨fun _ => h, fun i hi => by rw [hr] at hi; cases hi⟩
/-- What is held may grow on the way. -/
theorem Walks.weaken {S' : World → Prop} (hS : ∀ y, S' y → S y) : ∀ {n : Nat} {ls : Array Bool} {a : Act} {w : World}, Walks P md ops Q S' zs n ls a w → Walks P md ops Q S zs n ls a w
  | 0, _, _, _, h => h
  | _ + 1, _, _, _, h => ⟨h.1, fun i hi => wpOp_mono (fun _ _ hb => ⟨fun hz => hS _ (hb.1 hz), hb.2.weaken hS⟩) (h.2 i hi)⟩
theorem wp_walks {zl : List Nat} {id : Nat} {a : Act} {w : World} (hm : P.follows .mixedOrders = true) (hS : S w.drew)
    (h : S w.drew → Walks P .any ops Q S (zl.contains ·) ops.size (Array.replicate ops.size false) a w.drew) : (Code.region id ops true).wp P Q a w := wp_region_any hm (h hS).any
end
end
section
open Go.RowKit

section
variable {α : Type} {K : Kind α}
/-- What a row's law says of one operation in a list, it says of the operation. -/
theorem wp_of_list {ops : Array Oper} {o : Oper} {a : Act} {W : World} {K' : Act → World → Prop} {Q : Exit → Act → World → Prop} {E : Prop} (hg : o.guard = none) (h : ∀ Q2 : Exit → Act → World → Prop, (∀ b y, K' b y → wpList Tryz.prog ops Q2 [] b y) → wpList Tryz.prog ops Q2 [o] a W) :
    if Region.wanted o (yielded ops a.tmps) = true then Oper.wp Tryz.prog o a W K' Q else E := by
  have hw : Region.wanted o (yielded ops a.tmps) = true := by simp [Region.wanted, hg]
  rw [if_pos hw]
  have h2 := h (fun e b y => match e with | .normal => K' b y | .panic c => Q (.panic c) b y | _ => False) (fun _ _ hk => hk)
  rw [wpList, if_pos hw] at h2
  rcases h2 with h2 | ⟨_, _, _, hf⟩
  · unfold Oper.wp at h2 ⊢
    generalize (execOp a.eval o).run Tryz.prog W = r at h2 ⊢
    cases r with
    | ok x y =>
      cases x <;> simp only [Oper.upon] at h2 ⊢
      case enter f args =>
        refine Calls.mono h2 fun e y2 he => ?_
        cases e with
        | returned v => exact he
        | panicked c => exact he
        | outgrown => obtain ⟨_, _, hf⟩ := he; exact hf.elim
      all_goals exact h2
    | halt x y => cases x <;> simp only [Oper.upon] at h2 ⊢ <;> exact h2
  · exact hf.elim
/-- Elements are put behind a row of its own, nil or not: it stays in its block, or lies in a new one: at one operation. -/
theorem Kind.appZ [Inhabited α] (hK : K.Ok) {ops : Array Oper} {o : Oper} {a : Act} {K' : Act → World → Prop} {Q : Exit → Act → World → Prop} {E : Prop} (W : World) (hg : o.guard = none) (s x : Operand) (hop : o.op = Op.call { callee := Callee.builtin Builtin.append, args := #[s, x], argTypes := #[K.st, K.st] })
    (lo : Nat) (v : Value) (xs : List α) (hs : a.eval s = v) (hown : K.Own lo W v xs) (hlo : lo ≤ W.heap.size)
    (ao : Option Addr) (ys : List α) (m c : Nat) (hx : a.eval x = .slice ao m c) (hm : ys.length = m) (hno : ao = none → c = 0) (n : Nat) (hz : K.In n W ao ys) (hl : xs.length + ys.length ≤ 4194304)
    (hk : ∀ v' w', K.Own lo w' v' (xs ++ ys) → Below lo W w' → W.grownBy w' v.ownBlock → (∀ g, v'.ownBlock = some g → v.ownBlock = some g ∨ W.heap.size ≤ g) → K' (a.put o.dst v') w') :
    if Region.wanted o (yielded ops a.tmps) = true then Oper.wp Tryz.prog o a W K' Q else E :=
  wp_of_list hg fun _ hq => Kind.appN hK W hg s x hop lo v xs hs hown hlo ao ys m c hx hm hno n hz hl fun v' w' h1 h2 h3 h4 => hq _ _ (hk v' w' h1 h2 h3 h4)
end
end
section
open Go.RowKit

theorem Kind.flat_set {α : Type} [Inhabited α] (K : Kind α) {x : α} {v : Value} {i : Nat} : ∀ {us : List α} {k : Nat}, k < us.length → K.enc x = (K.enc (el us k)).set i v → i < K.sz → (K.flat us).set (k * K.sz + i) v = K.flat (us.set k x)
  | [], k, h, _, _ => by simp at h
  | y :: r, 0, _, he, hi => by
    rw [el_zero] at he
    rw [List.set_cons_zero, Kind.flat_cons, Kind.flat_cons, Nat.zero_mul, Nat.zero_add, List.set_append_left _ _ (by rw [K.len]; exact hi), he]
  | y :: r, k + 1, h, he, hi => by
    rw [el_cons] at he
    rw [List.set_cons_succ, Kind.flat_cons, Kind.flat_cons, ← Kind.flat_set K (by simpa using h) he hi, List.set_append_right _ _ (by rw [K.len, Nat.add_mul, Nat.one_mul]; omega), K.len]
    congr 2
    rw [Nat.add_mul, Nat.one_mul]; omega
theorem Kind.Fresh.putCell {α : Type} [Inhabited α] {K : Kind α} {lo hi : Nat} {W : World} {g c : Nat} {us : List α} (h : K.Fresh lo hi W (some ⟨g, 0, none⟩) c us) {k : Nat} (hk : k < us.length) {x : α} {v : Value} {i : Nat} (he : K.enc x = (K.enc (el us k)).set i v) (hi' : i < K.sz) :
    K.Fresh lo hi (W.setCell ⟨g, k * K.sz + i, none⟩ v) (some ⟨g, 0, none⟩) c (us.set k x) := by
  obtain ⟨g2, e2, hg1, hg2, hg3, ho⟩ := h.at (show 0 < us.length by omega)
  simp at e2; subst e2
  have hs := (World.ownsRow.stored ho (k * K.sz + i) v).1
  rw [K.flat_set hk he hi'] at hs
  refine .inr ⟨g, rfl, hg2, ?_⟩
  simpa using hs
theorem elset1 {α : Type} [Inhabited α] {l : List α} {i : Nat} {a : α} (h : i < l.length) : el (l.set i a) i = a := by simp [el, h]
theorem elset2 {α : Type} [Inhabited α] {l : List α} {i j : Nat} {a : α} (h : j ≠ i) : el (l.set i a) j = el l j := by simp [el, Ne.symm h]
theorem DFr.putG {A : Type} [Inhabited A] {D : Deep A} (hD : D.Ok) {lo hi hi' : Nat} {W W' : World} {ao : Option Addr} {c : Nat} {ts : List A} (h : DFr D lo hi W ao c ts) (hhi : hi ≤ hi') {k : Nat} (hk : k < ts.length) {a : A} (hK : D.K.Fresh lo hi' W' ao c (ts.set k a)) (hF : D.Fr lo hi' W' a) (ho : ∀ b, D.own a b → D.own (el ts k) b ∨ hi ≤ b) (hb : ∀ b, ¬ rowOwn ao ts b → ¬ D.own (el ts k) b → b < hi → W'.heap[b]? = W.heap[b]?) : DFr D lo hi' W' ao c (ts.set k a) := by
  refine ⟨hK, fun j hj => ?_, fun i j hij hj b h1 h2 => ?_⟩
  · have hj' : j < ts.length := by simpa using hj
    by_cases e : j = k
    · subst e; rw [elset1 hk]; exact hF
    · rw [elset2 e]
      refine hD.wide (hD.keep (h.2.1 j hj') fun b hob => hb b (h.head hD hj' hob) (fun hob2 => ?_) (hD.lt (h.2.1 j hj') hob).2.1) (Nat.le_refl _) hhi
      rcases Nat.lt_or_gt_of_ne e with hl | hl
      · exact h.2.2 j k hl hk b hob hob2
      · exact h.2.2 k j hl hj' b hob2 hob
  · have hj' : j < ts.length := by simpa using hj
    have hi1 : i < ts.length := by omega
    have e1 : D.own (el (ts.set k a) i) b → D.own (el ts i) b ∨ (i = k ∧ hi ≤ b) := by
      by_cases e : i = k
      · subst e; rw [elset1 hk]; exact fun h => (ho b h).imp id fun h => ⟨rfl, h⟩
      · rw [elset2 e]; exact .inl
    have e2 : D.own (el (ts.set k a) j) b → D.own (el ts j) b ∨ (j = k ∧ hi ≤ b) := by
      by_cases e : j = k
      · subst e; rw [elset1 hk]; exact fun h => (ho b h).imp id fun h => ⟨rfl, h⟩
      · rw [elset2 e]; exact .inl
    rcases e1 h1 with a1 | ⟨a1, a2⟩
    · rcases e2 h2 with b1 | ⟨b1, b2⟩
      · exact h.2.2 i j hij hj' b a1 b1
      · have := (hD.lt (h.2.1 i hi1) a1).2.1; omega
    · rcases e2 h2 with b1 | ⟨b1, b2⟩
      · have := (hD.lt (h.2.1 j hj') b1).2.1; omega
      · omega
theorem rw_fresh {α : Type} {K : Kind α} {lo hi : Nat} {W : World} {c : Nat} {ao : Option Addr} {xs : List α} (h : K.Fresh lo hi W ao c xs) (hn : 0 < xs.length) : K.RW lo hi W ao c xs := by
  rcases h with rfl | ⟨g, rfl, hg, ho⟩
  · simp at hn
  · exact ⟨ho, fun g' o e => by cases e; exact hg⟩
theorem fresh_rw {α : Type} {K : Kind α} {lo hi : Nat} {W : World} {c : Nat} {ao : Option Addr} {xs : List α} (h : K.RW lo hi W ao c xs) : K.Fresh lo hi W ao c xs := by
  rcases h.1.2 with ⟨e, h0⟩ | ⟨g, c2, cur, e, r⟩
  · exact .inl (List.length_eq_zero_iff.1 h0)
  · have e1 : ao = some ⟨g, 0, none⟩ := by simp at e; exact e.1
    exact .inr ⟨g, e1, h.2 g 0 e1, by rw [← e1]; exact h.1⟩
theorem DFr.snoc {A : Type} [Inhabited A] {D : Deep A} (hD : D.Ok) {lo hi hi2 : Nat} {W W' : World} {ao ao' : Option Addr} {c c' : Nat} {ts : List A} {x : A} (h : DFr D lo hi W ao c ts) (hx : D.Fr hi hi2 W x) (hl : lo ≤ hi) (hh : hi ≤ hi2) (hK : D.K.Fresh lo hi2 W' ao' c' (ts ++ [x])) (hk : ∀ b, (∃ j, j < ts.length ∧ D.own (el ts j) b) ∨ D.own x b → W'.heap[b]? = W.heap[b]?) : DFr D lo hi2 W' ao' c' (ts ++ [x]) := by
  refine ⟨hK, fun j hj => ?_, fun i j hij hj b h1 => ?_⟩
  · by_cases hj' : j < ts.length
    · rw [el_app_left hj']
      exact hD.wide (hD.keep (h.2.1 j hj') fun b hb => hk b (.inl ⟨j, hj', hb⟩)) (Nat.le_refl _) hh
    · obtain rfl : j = ts.length := by simp at hj; omega
      rw [el_snoc_right rfl]
      exact hD.wide (hD.keep hx fun b hb => hk b (.inr hb)) hl (Nat.le_refl _)
  · have hi' : i < ts.length := by simp at hj; omega
    rw [el_app_left hi'] at h1
    by_cases hj' : j < ts.length
    · rw [el_app_left hj']
      exact h.2.2 i j hij hj' b h1
    · obtain rfl : j = ts.length := by simp at hj; omega
      rw [el_snoc_right rfl]
      intro h2
      have h3 := (hD.lt (h.2.1 i hi') h1).2.1
      have h4 := (hD.lt hx h2).1
      omega
/-- Nodes that bear a row of none only where it has no room. -/
def NilN (us : List LNode) : Prop := ∀ a ∈ us, a.2.2.2.2.2.2.2 = [] → a.2.2.2.2.2.1 = none ∧ a.2.2.2.2.2.2.1 = 0
/-- A graph in its own memory, or none and no room. -/
def GW (lo hi : Nat) (W : World) (o : Option Addr) (c : Nat) (us : List LNode) : Prop := DFr dNode lo hi W o c us ∧ (us = [] → c = 0) ∧ NilN us
section
variable {lo hi : Nat} {W W' : World} {o : Option Addr} {c : Nat} {us : List LNode}
theorem GW.keep (h : GW lo hi W o c us) (hk : ∀ k, lo ≤ k → k < hi → k < W.heap.size → W'.heap[k]? = W.heap[k]?) : GW lo hi W' o c us := ⟨h.1.keep dNode_ok hk, h.2⟩
theorem GW.later (h : GW lo hi W o c us) (hb : Below W.heap.size W W') : GW lo hi W' o c us := h.keep fun k _ _ hk => hb.block k hk
theorem GW.below (h : GW lo hi W o c us) {n : Nat} (hb : Below n W W') (hn : hi ≤ n) : GW lo hi W' o c us := h.keep fun k _ h2 _ => hb.block k (by omega)
theorem GW.grew {p : Nat} (h : GW lo hi W o c us) (hg : Grew p W W') (hp : p < lo) : GW lo hi W' o c us := h.keep fun k h1 _ hk => hg.block k hk (by omega)
theorem GW.setOff (h : GW lo hi W o c us) {a : Addr} (ha : a.block < lo ∨ hi ≤ a.block) (u : Value) : GW lo hi (W.setCell a u) o c us := h.keep fun k h1 h2 _ => Below.heap_setCell W a u k (by omega)
theorem GW.wide {lo' hi' : Nat} (h : GW lo hi W o c us) (h1 : lo' ≤ lo) (h2 : hi ≤ hi') : GW lo' hi' W o c us := ⟨h.1.wide dNode_ok h1 h2, h.2⟩
theorem GW.in (h : GW lo hi W o c us) : DIn dNode W.heap.size W o us := h.1.in dNode_ok
theorem gw_nil : GW lo hi W none 0 [] := ⟨DFr.nil _ _ _ _ _, fun _ => rfl, fun a ha => by simp at ha⟩
/-- A node's row is its own. -/
theorem GW.row (h : GW lo hi W o c us) {j : Nat} (hj : j < us.length) : kI.RW lo hi W (el us j).2.2.2.2.2.1 (el us j).2.2.2.2.2.2.1 (el us j).2.2.2.2.2.2.2 := by
  have hF : kI.Fresh lo hi W (el us j).2.2.2.2.2.1 (el us j).2.2.2.2.2.2.1 (el us j).2.2.2.2.2.2.2 := h.1.2.1 j hj
  by_cases e : (el us j).2.2.2.2.2.2.2 = []
  · obtain ⟨e1, e2⟩ := h.2.2 _ (el_mem hj) e
    rw [e, e1, e2]; exact Kind.RW.nil
  · exact rw_fresh hF (List.length_pos_iff.2 e)
theorem own_type {lo' : Nat} {v : Value} {xs : List LNode} (h : hNode.Own lo' W v xs) {b : Nat} (hb : v.ownBlock = some b) : ∃ cur, W.heap[b]? = some (.cells cur 34 (0, 0)) := by
  rcases h.2 with ⟨e, _⟩ | ⟨g, cap, cur, e, _, hh, _⟩
  · subst e; simp [Value.ownBlock] at hb
  · subst e; simp [Value.ownBlock] at hb; subst hb; exact ⟨cur, hh⟩
end
theorem hNode_one {n : Nat} {W : World} {p : Nat} {nm : ByteArray} {kd sa sb cp : Int} {nxo : Option Addr} {nxc : Nat} {nx : List Int} (hp : p < n) (h : Bx W p [.string nm, .int .i64 kd, .int .i64 sa, .int .i64 sb, .int .i64 cp, .slice nxo nx.length nxc]) : hNode.In n W (some ⟨p, 0, none⟩) [((nm, kd, sa, sb, cp, (nxo, nxc, nx)) : LNode)] := by
  refine Kind.In.mk1 hp fun i hi => ?_
  rw [Nat.zero_add]
  have hi' : i < 6 := hi
  rcases (show i = 0 ∨ i = 1 ∨ i = 2 ∨ i = 3 ∨ i = 4 ∨ i = 5 from by omega) with rfl | rfl | rfl | rfl | rfl | rfl
  · exact h.c 0 rfl
  · exact h.c 1 rfl
  · exact h.c 2 rfl
  · exact h.c 3 rfl
  · exact h.c 4 rfl
  · exact h.c 5 rfl
/-- What is left once a node was put behind a graph. -/
theorem gw_snoc {lo hi : Nat} {W W' : World} {o : Option Addr} {c : Nat} {us : List LNode} {nm : ByteArray} {kd sa sb cp : Int} {nxo : Option Addr} {nxc : Nat} {nx : List Int} (h : GW lo hi W o c us) (hx : kI.RW hi W.heap.size W nxo nxc nx) (hn : nx = [] → nxo = none ∧ nxc = 0) (hlo : lo ≤ hi) (hhi : hi ≤ W.heap.size)
    {to : Option Addr} {tc : Nat} (hO : hNode.Own lo W' (.slice to (us ++ [((nm, kd, sa, sb, cp, (nxo, nxc, nx)) : LNode)]).length tc) (us ++ [((nm, kd, sa, sb, cp, (nxo, nxc, nx)) : LNode)])) (hG : ∀ k : Nat, k < W.heap.size → (∃ cur, W.heap[k]? = some (.cells cur 34 (0, 0))) ∨ W'.heap[k]? = W.heap[k]?) (hs : W.heap.size ≤ W'.heap.size) :
    GW lo W'.heap.size W' to tc (us ++ [((nm, kd, sa, sb, cp, (nxo, nxc, nx)) : LNode)]) := by
  have hne : ∀ (b : Nat) cur t, W.heap[b]? = some (.cells cur t (0, 0)) → t ≠ 34 → W'.heap[b]? = W.heap[b]? := fun b cur t hb ht => by
    rcases hG b (Array.getElem?_eq_some_iff.1 hb).1 with ⟨cur2, h2⟩ | h2
    · rw [hb] at h2; simp at h2; exact absurd h2.2 ht
    · exact h2
  have hX : dNode.Fr hi W.heap.size W ((nm, kd, sa, sb, cp, (nxo, nxc, nx)) : LNode) := fresh_rw hx
  refine ⟨DFr.wide dNode_ok (DFr.snoc (hi2 := W'.heap.size) dNode_ok h.1 (dNode_ok.wide hX (Nat.le_refl _) hs) hlo (Nat.le_trans hhi hs) (fresh_rw (Kind.RW.of hO)) fun b hb => ?_) (Nat.le_refl _) (Nat.le_refl _), fun e => by simp at e, fun a ha e => ?_⟩
  · rcases hb with ⟨j, hj, hb⟩ | hb
    · obtain ⟨_, _, _, cur, t, h4, h5⟩ := dNode_ok.lt (h.1.2.1 j hj) hb
      exact hne b cur t h4 h5
    · obtain ⟨_, _, _, cur, t, h4, h5⟩ := dNode_ok.lt hX hb
      exact hne b cur t h4 h5
  · rcases List.mem_append.1 ha with ha | ha
    · exact h.2.2 a ha e
    · simp at ha; subst ha
      exact hn e
/-- The head of a graph's node. -/
theorem GW.head {lo hi : Nat} {W : World} {o : Option Addr} {c : Nat} {us : List LNode} (h : GW lo hi W o c us) {k : Nat} (hk : k < us.length) : ∃ g, o = some ⟨g, 0, none⟩ ∧ lo ≤ g ∧ g < hi ∧ g < W.heap.size ∧ (W.cell? ⟨g, k * 6, none⟩ = some (.string (el us k).1) ∧ W.cell? ⟨g, k * 6 + 4, none⟩ = some (.int .i64 (el us k).2.2.2.2.1) ∧ W.cell? ⟨g, k * 6 + 5, none⟩ = some (.slice (el us k).2.2.2.2.2.1 (el us k).2.2.2.2.2.2.2.length (el us k).2.2.2.2.2.2.1)) ∧ (∀ q, W.frozen? ⟨g, k * 6 + q, none⟩ = false) ∧ rowOwn o us g ∧ ∃ cur, W.heap[g]? = some (.cells cur 34 (0, 0)) := by
  obtain ⟨g, e2, hg1, hg2, hg3, ho⟩ := h.1.1.at (show 0 < us.length by omega)
  subst e2
  obtain ⟨b0, off, eb, _, hc⟩ := hNode_at h.1.1.in hk
  obtain ⟨rfl, rfl⟩ : b0 = g ∧ off = 0 := by simp at eb; exact ⟨eb.1.symm, eb.2.symm⟩
  have hc' := hc k hk
  simp only [Nat.zero_add] at hc'
  exact ⟨b0, rfl, hg1, hg2, hg3, ⟨hc'.1, hc'.2.2.2.2.1, hc'.2.2.2.2.2⟩, fun q => ho.frozenAt (k * 6 + q), ⟨by omega, rfl⟩, owns_type ho⟩
/-- A cell of a node is written that is no row. -/
theorem GW.put {lo hi : Nat} {W : World} {g c : Nat} {us : List LNode} (h : GW lo hi W (some ⟨g, 0, none⟩) c us) {k : Nat} (hk : k < us.length) {x : LNode} {v : Value} {i : Nat} (hi' : i < 6) (he : hNode.enc x = (hNode.enc (el us k)).set i v) (hx : x.2.2.2.2.2 = (el us k).2.2.2.2.2) : GW lo hi (W.setCell ⟨g, k * 6 + i, none⟩ v) (some ⟨g, 0, none⟩) c (us.set k x) := by
  have hfar : ∀ b, ¬ rowOwn (some ⟨g, 0, none⟩) us b → (W.setCell ⟨g, k * 6 + i, none⟩ v).heap[b]? = W.heap[b]? := fun b hb => Below.heap_setCell W _ v b fun e => hb ⟨by omega, by rw [e]⟩
  refine ⟨DFr.putG dNode_ok h.1 (Nat.le_refl _) hk (h.1.1.putCell hk he hi') ?_ (fun b hb => .inl ?_) fun b h1 _ _ => hfar b h1, fun e => ?_, fun a ha e => ?_⟩
  · have hF := h.1.2.1 k hk
    have hF' : dNode.Fr lo hi (W.setCell ⟨g, k * 6 + i, none⟩ v) (el us k) := dNode_ok.keep hF fun b hb => hfar b (h.1.head dNode_ok hk hb)
    show kI.Fresh _ _ _ _ _ _
    rw [hx]; exact hF'
  · have hb' : rowOwn x.2.2.2.2.2.1 x.2.2.2.2.2.2.2 b := hb
    rw [hx] at hb'; exact hb'
  · have := congrArg List.length e
    simp at this; rw [this] at hk; simp at hk
  · rcases List.mem_or_eq_of_mem_set ha with h1 | h1
    · exact h.2.2 a h1 e
    · subst h1; rw [hx] at e ⊢; exact h.2.2 _ (el_mem hk) e
/-- A node's row has grown and is told. -/
theorem GW.putRow {lo hi : Nat} {W W1 : World} {g c : Nat} {us : List LNode} (h : GW lo hi W (some ⟨g, 0, none⟩) c us) (hh : hi ≤ W.heap.size) {k : Nat} (hk : k < us.length) {nm : ByteArray} {kd sa sb cp : Int} {x : Option Addr × Nat × List Int} (he : el us k = (nm, kd, sa, sb, cp, x)) {no : Option Addr} {nc : Nat} {nx : List Int} (hO : kI.Own lo W1 (.slice no nx.length nc) nx) (hG : W.grownBy W1 (Value.slice x.1 x.2.2.length x.2.1).ownBlock) (hN : ∀ b, (Value.slice no nx.length nc).ownBlock = some b → (Value.slice x.1 x.2.2.length x.2.1).ownBlock = some b ∨ W.heap.size ≤ b) :
    DFr dNode lo W1.heap.size (W1.setCell ⟨g, k * 6 + 5, none⟩ (.slice no nx.length nc)) (some ⟨g, 0, none⟩) c (us.set k (nm, kd, sa, sb, cp, (no, nc, nx))) := by
  obtain ⟨g', e', hg1, hg2, hg3, _, _, hro, cur, hcur⟩ := h.head hk
  simp at e'; subst e'
  have hR := h.row hk
  rw [he] at hR
  dsimp only at hR
  have hxb : ∀ b, (Value.slice x.1 x.2.2.length x.2.1).ownBlock = some b → b < W.heap.size ∧ ∃ cur, W.heap[b]? = some (.cells cur 3 (0, 0)) := fun b hb => by
    rcases hR.1.2 with ⟨e, _⟩ | ⟨g2, cap2, cur2, e, _, hh2, _⟩
    · rw [e] at hb; simp [Value.ownBlock] at hb
    · rw [e] at hb; simp [Value.ownBlock] at hb; subst hb; exact ⟨(Array.getElem?_eq_some_iff.1 hh2).1, cur2, hh2⟩
  have hgW : W1.heap[g]? = W.heap[g]? := hG.block g hg3 fun e => by
    obtain ⟨_, cur2, h2⟩ := hxb g e.symm
    rw [hcur] at h2; simp at h2 <;> exact absurd h2.2 (by decide)
  have hK1 : hNode.Fresh lo hi W1 (some ⟨g, 0, none⟩) c us := h.1.1.keepB fun b hb => by
    obtain ⟨_, e⟩ := hb; simp at e; subst e; exact hgW
  have hlen : us.length ≠ 0 := by omega
  refine DFr.putG dNode_ok h.1 (Nat.le_trans hh hG.size) hk (Kind.Fresh.wide (Kind.Fresh.putCell hK1 hk (by rw [he]; rfl) (by decide)) (Nat.le_refl _) (Nat.le_trans hh hG.size)) ?_ (fun b hb => ?_) fun b h1 h2 h3 => ?_
  · have hF : kI.Fresh lo W1.heap.size W1 no nc nx := fresh_rw (Kind.RW.of hO)
    refine Kind.Fresh.keepB hF fun b hb => Below.heap_setCell _ _ _ _ fun e => ?_
    dsimp only at e; subst e
    obtain ⟨_, _, _, cur2, h4⟩ := hF.lt hb
    rw [hgW, hcur] at h4; simp at h4 <;> exact absurd h4.2 (by decide)
  · have hb' : rowOwn no nx b := hb
    have hob : (Value.slice no nx.length nc).ownBlock = some b := by rw [hb'.2]; rfl
    rcases hN b hob with h5 | h5
    · refine .inl ?_
      rw [he]
      show rowOwn x.1 x.2.2 b
      rcases hR.1.2 with ⟨e, h0⟩ | ⟨g2, cap2, cur2, e, _⟩
      · rw [e] at h5; simp [Value.ownBlock] at h5
      · refine ⟨?_, ?_⟩
        · rcases Nat.eq_zero_or_pos x.2.2.length with e0 | e0
          · have := h.2.2 _ (el_mem hk) (by rw [he]; exact List.length_eq_zero_iff.1 e0)
            rw [he] at this
            dsimp only at this
            rw [this.1] at h5; simp [Value.ownBlock] at h5
          · exact e0
        · rw [e] at h5; simp [Value.ownBlock] at h5; subst h5; simp at e; exact e.1
    · exact .inr (Nat.le_trans hh h5)
  · have hbg : b ≠ g := fun e => h1 ⟨by omega, by rw [e]⟩
    rw [Below.heap_setCell _ _ _ _ hbg]
    refine hG.block b (by omega) fun e => h2 ?_
    rw [he]
    show rowOwn x.1 x.2.2 b
    rcases hR.1.2 with ⟨e3, h0⟩ | ⟨g2, cap2, cur2, e3, _⟩
    · rw [e3] at e; simp [Value.ownBlock] at e
    · refine ⟨?_, ?_⟩
      · rcases Nat.eq_zero_or_pos x.2.2.length with e0 | e0
        · have := h.2.2 _ (el_mem hk) (by rw [he]; exact List.length_eq_zero_iff.1 e0)
          rw [he] at this
          dsimp only at this
          rw [this.1] at e; simp [Value.ownBlock] at e
        · exact e0
      · rw [e3] at e; simp [Value.ownBlock] at e; subst e; simp at e3; exact e3.1
/-- An append to a node's row leaves the heads. -/
theorem GW.headKept {lo hi : Nat} {W W1 : World} {g c : Nat} {us : List LNode} (h : GW lo hi W (some ⟨g, 0, none⟩) c us) {k : Nat} (hk : k < us.length) {x : Option Addr × Nat × List Int} (hR : kI.RW lo hi W x.1 x.2.1 x.2.2) (hG : W.grownBy W1 (Value.slice x.1 x.2.2.length x.2.1).ownBlock) : W1.heap[g]? = W.heap[g]? := by
  obtain ⟨g', e', hg1, hg2, hg3, _, _, hro, cur, hcur⟩ := h.head hk
  simp at e'; subst e'
  refine hG.block g hg3 fun e => ?_
  rcases hR.1.2 with ⟨e2, _⟩ | ⟨g2, cap2, cur2, e2, _, hh2, _⟩
  · rw [e2] at e; simp [Value.ownBlock] at e
  · rw [e2] at e; simp [Value.ownBlock] at e; subst e
    rw [hcur] at hh2; simp at hh2 <;> exact absurd hh2.2 (by decide)
/-- A graph that may be read. -/
def GD (lo hi : Nat) (W : World) (o : Option Addr) (c : Nat) (us : List LNode) : Prop := DFr dNode lo hi W o c us
section
variable {lo hi : Nat} {W W' : World} {o : Option Addr} {c : Nat} {us : List LNode}
theorem GD.keep (h : GD lo hi W o c us) (hk : ∀ k, lo ≤ k → k < hi → k < W.heap.size → W'.heap[k]? = W.heap[k]?) : GD lo hi W' o c us := DFr.keep dNode_ok h hk
theorem GD.later (h : GD lo hi W o c us) (hb : Below W.heap.size W W') : GD lo hi W' o c us := h.keep fun k _ _ hk => hb.block k hk
theorem GD.grew {p : Nat} (h : GD lo hi W o c us) (hg : Grew p W W') (hp : p < lo) : GD lo hi W' o c us := h.keep fun k h1 _ hk => hg.block k hk (by omega)
theorem GD.setOff (h : GD lo hi W o c us) {a : Addr} (ha : a.block < lo ∨ hi ≤ a.block) (u : Value) : GD lo hi (W.setCell a u) o c us := h.keep fun k h1 h2 _ => Below.heap_setCell W a u k (by omega)
theorem GD.wide {lo' hi' : Nat} (h : GD lo hi W o c us) (h1 : lo' ≤ lo) (h2 : hi ≤ hi') : GD lo' hi' W o c us := DFr.wide dNode_ok h h1 h2
theorem GD.in (h : GD lo hi W o c us) : DIn dNode W.heap.size W o us := DFr.in dNode_ok h
theorem GD.roomy (h : GD lo hi W o c us) (hl : us.length ≤ 1048576) (hf : FitN us) : Roomy us c := ⟨h.1.cap, fun a ha => by
  obtain ⟨j, hj, rfl⟩ := mem_el ha
  exact Kind.Fresh.cap (h.2.1 j hj), hf, hl⟩
theorem GW.gd (h : GW lo hi W o c us) : GD lo hi W o c us := h.1
end
/-- A graph in its own memory that can be appended to. -/
def GO (lo hi : Nat) (W : World) (o : Option Addr) (c : Nat) (us : List LNode) : Prop := GW lo hi W o c us ∧ hNode.RW lo hi W o c us
section
variable {lo hi : Nat} {W W' : World} {o : Option Addr} {c : Nat} {us : List LNode}
theorem GO.keep (h : GO lo hi W o c us) (hk : ∀ k, lo ≤ k → k < hi → k < W.heap.size → W'.heap[k]? = W.heap[k]?) : GO lo hi W' o c us := ⟨h.1.keep hk, h.2.keep hk⟩
theorem GO.later (h : GO lo hi W o c us) (hb : Below W.heap.size W W') : GO lo hi W' o c us := h.keep fun k _ _ hk => hb.block k hk
theorem GO.below (h : GO lo hi W o c us) {n : Nat} (hb : Below n W W') (hn : hi ≤ n) : GO lo hi W' o c us := h.keep fun k _ h2 _ => hb.block k (by omega)
theorem GO.grew {p : Nat} (h : GO lo hi W o c us) (hg : Grew p W W') (hp : p < lo) : GO lo hi W' o c us := h.keep fun k h1 _ hk => hg.block k hk (by omega)
theorem GO.setOff (h : GO lo hi W o c us) {a : Addr} (ha : a.block < lo ∨ hi ≤ a.block) (u : Value) : GO lo hi (W.setCell a u) o c us := h.keep fun k h1 h2 _ => Below.heap_setCell W a u k (by omega)
theorem GO.wide {lo' hi' : Nat} (h : GO lo hi W o c us) (h1 : lo' ≤ lo) (h2 : hi ≤ hi') : GO lo' hi' W o c us := ⟨h.1.wide h1 h2, h.2.wide h1 h2⟩
theorem go_nil : GO lo hi W none 0 [] := ⟨gw_nil, Kind.RW.nil⟩
end
theorem Kind.RW.below {α : Type} {K : Kind α} {lo hi n : Nat} {W W' : World} {ao : Option Addr} {c : Nat} {xs : List α} (h : K.RW lo hi W ao c xs) (hb : Below n W W') (hn : hi ≤ n) : K.RW lo hi W' ao c xs := h.keep fun k _ h2 _ => hb.block k (by omega)
theorem gw_app {lo hi : Nat} {W W' : World} {o : Option Addr} {c : Nat} {us : List LNode} {nm : ByteArray} {kd sa sb cp : Int} {nxo : Option Addr} {nxc : Nat} {nx : List Int} {v' : Value} (h : GO lo hi W o c us) (hx : kI.RW hi W.heap.size W nxo nxc nx) (hn : nx = [] → nxo = none ∧ nxc = 0) (hlo : lo ≤ hi) (hhi : hi ≤ W.heap.size)
    (hO : hNode.Own lo W' v' (us ++ [((nm, kd, sa, sb, cp, (nxo, nxc, nx)) : LNode)])) (hG : W.grownBy W' (Value.slice o us.length c).ownBlock) :
    ∃ to tc, v' = .slice to (us ++ [((nm, kd, sa, sb, cp, (nxo, nxc, nx)) : LNode)]).length tc ∧ GO lo W'.heap.size W' to tc (us ++ [((nm, kd, sa, sb, cp, (nxo, nxc, nx)) : LNode)]) := by
  obtain ⟨to, tc, rfl, hO2⟩ := hO.as
  refine ⟨to, tc, rfl, gw_snoc h.1 hx hn hlo hhi hO2 (fun k hk => ?_) hG.size, Kind.RW.of hO2⟩
  by_cases e : (Value.slice o us.length c).ownBlock = some k
  · exact .inl (own_type h.2.1 e)
  · exact .inr (hG.block k hk fun e2 => e e2.symm)
end
section
open Go.RowKit

set_option maxRecDepth 10000 in
set_option maxHeartbeats 2000000 in
theorem of_any (zs : List ByteArray) (q p : Nat) (co : Option Addr) (cap : Nat) (bs : List Int) (k : Nat) (sd : Int) (w : World) (hl : bs.length ≤ 9223372036854775807) (ha : k ≤ 1099511627770) (hC : Cur w p co cap bs k sd) (h0 : 0 < zs.length) (h9 : zs.length ≤ 100) (hz : Bx w q (zs.map fun z => .string z)) (hb : q ≠ p) :
    Calls Tryz.prog 35 #[.pointer (some ⟨p, 0, none⟩), .slice (some ⟨q, 0, none⟩) zs.length zs.length] w fun e w' => (∃ z, z ∈ zs ∧ e = .returned (.string z)) ∧ Drawn w p co cap bs k 2 w' := by
  go_enter Tryz.func35, Tryz.ntmps35
  go_wp2_with fail
  refine (pick_any (zs.length : Int) p co cap bs k sd w hl (by omega) hC).mono ?_
  rintro e w1 ⟨⟨x, rfl, hx0, hx1⟩, k1, sd1, hk1, C1, O1⟩
  obtain ⟨m, rfl⟩ : ∃ m : Nat, x = m := ⟨x.toNat, by omega⟩
  have hm : m < zs.length := by omega
  have hc : w1.cell? ⟨q, m, none⟩ = some (.string (el zs m)) := by
    rw [O1.cell q m hb]
    exact hz.c m (by simp [hm, el])
  have hmi : (m : Int) < (zs.length : Int) := by omega
  go_wp2
  refine bodyPost_ret (v := .string (el zs m)) (by simp [results, Tryz.results35, go_sem]) rfl ?_
  exact ⟨⟨_, el_mem hm, rfl⟩, k1, sd1, by omega, C1, O1⟩
/-- A text of two bytes. -/
def two (x y : Int) : ByteArray := [x, y].foldl (fun r n => r.push (UInt8.ofNat n.toNat)) ByteArray.empty
theorem two_size (x y : Int) : (two x y).size = 2 := rfl
theorem conv_two (x y : Int) (W : World) (b : Nat) (h0 : W.cell? ⟨b, 0, none⟩ = some (.int .u8 x)) (h1 : W.cell? ⟨b, 1, none⟩ = some (.int .u8 y)) : (convert 22 9 (.slice (some ⟨b, 0, none⟩) 2 2)).run Tryz.prog W = .ok (.string (two x y)) W := by
  rw [run_convert_bytes_string _ _ _ 5 _ _ _ Tryz.underlying22 Tryz.underlying5 Tryz.underlying9]
  refine run_bytesToString _ _ _ _ [x, y] ?_
  have e1 : (⟨b, 0, none⟩ : Addr).add 1 = ⟨b, 1, none⟩ := rfl
  simp [loadCells, go_sem, h0, h1]
end
section
open Go Go.RowKit

section
variable {P : Program} {ops : Array Oper} {Q : Exit → Act → World → Prop} {md : Region.Mode} {S : World → Prop} {zs : Nat → Bool}
theorem Walks.pair {n i j : Nat} {ls : Array Bool} {a : Act} {w : World} {o o2 : Oper} (hr : Region.ready md ops ls = [i, j]) (ho : ops[i]? = some o) (ho2 : ops[j]? = some o2)
    (h : ∀ K : Act → World → Prop, Shut (∀ b y, (zs i = false → S y) → ((zs i = false → S y) → Walks P md ops Q S zs n (ls.setIfInBounds i true) b y) → K b y) → if Region.wanted o (yielded ops a.tmps) = true then Oper.wp P o a w K Q else K (a.put o.dst undef) w)
    (h2 : ∀ K : Act → World → Prop, Shut (∀ b y, (zs j = false → S y) → ((zs j = false → S y) → Walks P md ops Q S zs n (ls.setIfInBounds j true) b y) → K b y) → if Region.wanted o2 (yielded ops a.tmps) = true then Oper.wp P o2 a w K Q else K (a.put o2.dst undef) w) : Walks P md ops Q S zs (n + 1) ls a w :=
  ⟨fun e => (by rw [hr] at e; cases e), fun k hk => by
    rw [hr] at hk
    rcases List.mem_cons.1 hk with rfl | hk
    · exact wpOp_step ho fun K hK => h K fun b y h1 h2 => hK b y ⟨h1, h2 h1⟩
    · obtain rfl := List.mem_singleton.1 hk
      exact wpOp_step ho2 fun K hK => h2 K fun b y h1 h3 => hK b y ⟨h1, h3 h1⟩⟩
end
end
section
open Go Go.RowKit

section
variable {P : Program} {ops : Array Oper} {Q : Exit → Act → World → Prop} {md : Region.Mode} {S : World → Prop} {zs : Nat → Bool}
theorem Walks.trio {n i j l : Nat} {ls : Array Bool} {a : Act} {w : World} {o o2 o3 : Oper} (hr : Region.ready md ops ls = [i, j, l]) (ho : ops[i]? = some o) (ho2 : ops[j]? = some o2) (ho3 : ops[l]? = some o3)
    (h : ∀ K : Act → World → Prop, Shut (∀ b y, (zs i = false → S y) → ((zs i = false → S y) → Walks P md ops Q S zs n (ls.setIfInBounds i true) b y) → K b y) → if Region.wanted o (yielded ops a.tmps) = true then Oper.wp P o a w K Q else K (a.put o.dst undef) w)
    (h2 : ∀ K : Act → World → Prop, Shut (∀ b y, (zs j = false → S y) → ((zs j = false → S y) → Walks P md ops Q S zs n (ls.setIfInBounds j true) b y) → K b y) → if Region.wanted o2 (yielded ops a.tmps) = true then Oper.wp P o2 a w K Q else K (a.put o2.dst undef) w)
    (h3 : ∀ K : Act → World → Prop, Shut (∀ b y, (zs l = false → S y) → ((zs l = false → S y) → Walks P md ops Q S zs n (ls.setIfInBounds l true) b y) → K b y) → if Region.wanted o3 (yielded ops a.tmps) = true then Oper.wp P o3 a w K Q else K (a.put o3.dst undef) w) : Walks P md ops Q S zs (n + 1) ls a w :=
  ⟨fun e => (by rw [hr] at e; cases e), fun k hk => by
    rw [hr] at hk
    rcases List.mem_cons.1 hk with rfl | hk
    · exact wpOp_step ho fun K hK => h K fun b y h1 h2 => hK b y ⟨h1, h2 h1⟩
    · rcases List.mem_cons.1 hk with rfl | hk
      · exact wpOp_step ho2 fun K hK => h2 K fun b y h1 h3 => hK b y ⟨h1, h3 h1⟩
      · obtain rfl := List.mem_singleton.1 hk
        exact wpOp_step ho3 fun K hK => h3 K fun b y h1 h4 => hK b y ⟨h1, h4 h1⟩⟩
end
end
end Go.Proofs.YtebnapgcobcilaaGreatDoor
