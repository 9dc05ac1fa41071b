
/- The order of a graph: the program. No conditions but those written. -/
import Derived.Test.YteamcpcjooglaaaDoorRw
import Derived.Test.YteamcpcjooglaaaDoorWi
import Derived.Test.YteamcpcjooglaaaDoorAo
namespace Go.Proofs.YteamcpcjooglaaaDoor
open Go.RowKit

/-- A row of ints in its own memory, as an ending. -/
def AnsI (w : World) (q : List Int) (e : Ending) (w' : World) : Prop := (∃ go qc, e = .returned (.slice go q.length qc) ∧ kI.Fresh w.heap.size w'.heap.size w' go qc q) ∧ Below w.heap.size w w'
/-- The numbers from 0 on. -/
def numsI (n : Nat) : List Int := (List.range n).map fun k : Nat => (k : Int)
theorem numsI_len (n : Nat) : (numsI n).length = n := by simp [numsI]
theorem numsI_succ (n : Nat) : numsI (n + 1) = numsI n ++ [(n : Int)] := by simp [numsI, List.range_succ]
theorem numsI_mem {n : Nat} {x : Int} (h : x ∈ numsI n) : ∃ k : Nat, k < n ∧ x = (k : Int) := by
  simp only [numsI, List.mem_map, List.mem_range] at h
  obtain ⟨k, hk, rfl⟩ := h
  exact ⟨k, hk, rfl⟩
set_option maxHeartbeats 4000000 in
theorem numbersOf_any (ao : Option Addr) (cap n : Nat) (w : World) (hl : n ≤ 1048576) :
    Calls Tryd.prog 38 #[.slice ao n cap] w fun e w' => AnsI w (numsI n) e w' := by
  go_enter Tryd.func38, Tryd.ntmps38
  go_wp2
  go_loopw [3, 7] (fun u i wr => ∃ (k : Nat) (v : Value), v = u ∧ k ≤ n ∧ i = .int .i64 k ∧ Hid (kI.Own w.heap.size wr v (numsI k)) ∧ Below w.heap.size w wr) (fun _ i _ => n - (intOf i).toNat)
  case atStart => exact ⟨0, _, rfl, Nat.zero_le _, rfl, Kind.Own.nil _ _ _, Below.refl _ _⟩
  case round =>
    obtain ⟨k, v, rfl, hk, rfl, hO, hB⟩ := hrel
    by_cases hlt : k < n
    · have hs := hB.size
      have HA : Hid (kI.Own w.heap.size (wr.alloc (.cells #[.int .i64 (k : Int)] 3)) v (numsI k)) := hO.out.below (below1 _ _)
      have HN : Hid (kI.In (wr.heap.size + 1) (wr.alloc (.cells #[.int .i64 (k : Int)] 3)) (some ⟨wr.heap.size, 0, none⟩) [(k : Int)]) := int_one (by omega) (by simp)
      have hll : (numsI k).length + 1 ≤ 4194304 := by rw [numsI_len]; omega
      have hBa : Below w.heap.size w (wr.alloc (.cells #[.int .i64 (k : Int)] 3)) := Below.allocS hB _
      go_wp2_with (at_builtin; refine Kind.app kI_ok (wr.alloc (.cells #[.int .i64 (k : Int)] 3)) rfl (.tmp 10) (.tmp 12) rfl w.heap.size v (numsI k) rfl HA.out (by simp; omega) (some ⟨wr.heap.size, 0, none⟩) [(k : Int)] 1 1 rfl rfl (by simp) _ HN.out hll ?_; intro v' w' hO' hB' hG' hn'; have hB2 : Below w.heap.size w w' := hBa.trans (hB'.mono (by omega)); have HO' : Hid (kI.Own w.heap.size w' v' (numsI (k + 1))) := (by rw [Hid, numsI_succ]; exact hO'); clear hO' hB' hG' hn')
      go_roundw
      case rel => exact ⟨k + 1, v', rfl, by omega, by go_num, HO', hB2⟩
      case measure => simp [intOf]; omega
    · obtain rfl : k = n := by omega
      obtain ⟨qo, qc, rfl, _, hF⟩ := hO.out.fresh
      have HF := hid hF
      clear hF hO
      rw [numsI_len]
      go_wp2
      go_ret
      exact ⟨⟨_, _, by rw [numsI_len]; rfl, HF.out⟩, hB⟩
/-- One node leads to another. -/
def leadsP (gs : List PNode) (a b : Int) : Bool := hasB (el gs a.toNat).2.2.2.2.2 b
/-- One of these leads to it. -/
def ledP (gs : List PNode) (l : List Int) (b : Int) : Bool := l.any fun a => leadsP gs a b
/-- Each time the first to which none leads. -/
def behindP (gs : List PNode) : Nat → List Int → List Int → List Int × List Int
  | 0, o, l => (o, l)
  | n + 1, o, l => match l.findIdx? (fun b => !ledP gs l b) with
    | none => (o, l)
    | some k => behindP gs n (o ++ [el l k]) (l.take k ++ l.drop (k + 1))
set_option maxHeartbeats 2000000 in
theorem leads_is (pg : Nat) (ao : Option Addr) (cap : Nat) (ts : List LNode) (k : Nat) (b : Int) (w : World) (hk : k < ts.length) (hF : FitN ts) (hG : GrIn w pg ao cap ts) :
    Calls Tryd.prog 41 #[.int .i64 (k : Int), .int .i64 b, .pointer (some ⟨pg, 0, none⟩)] w fun e w' => e = .returned (.bool (leadsP (ts.map valNode) k b)) ∧ Below w.heap.size w w' := by
  have HG := hid hG
  have hki : (k : Int) < (ts.length : Int) := by omega
  clear hG
  obtain ⟨bb, off, rfl, hb, hc⟩ := hNode_at HG.out.rows.1 hk
  have d6 := (hc k hk).2.2.2.2.2
  have hfk := hF _ (el_mem hk)
  have hev := el_val hk
  have hin := HG.out.rows.2 k hk
  obtain ⟨⟨nm, kd, sa, sb, cp, ⟨nxo, nxc, nx⟩⟩, ex⟩ : ∃ v, v = el ts k := ⟨_, rfl⟩
  rw [← ex] at d6 hfk hev hin
  have E1 : Hid (leadsP (ts.map valNode) k b = hasB nx b) := by rw [Hid, leadsP, Int.toNat_natCast, hev]; rfl
  have HI : Hid (kI.In w.heap.size w nxo nx) := hin
  have c0 := HG.out.box.c 0 rfl
  clear hc hev hin
  dsimp only at d6 hfk
  go_enter Tryd.func41, Tryd.ntmps41
  go_wp2_with fail
  refine (contains_is w.heap.size nxo nxc nx b w (hasB nx b) hfk.2 HI.out rfl).mono ?_
  rintro e w1 ⟨rfl, rfl⟩
  go_wp2
  go_ret
  exact ⟨ret_bool E1.out.symm, Below.refl _ _⟩
theorem Tryd.entersLd : ∀ args w, (callFunc 41 args).run Tryd.prog w = .ok (.enter 41 args) w := enters_of Tryd.func41 (by kernel_rfl) rfl
theorem Tryd.entersB1 : ∀ args w, (callFunc 53 args).run Tryd.prog w = .ok (.enter 53 args) w := enters_of Tryd.func53 (by kernel_rfl) rfl
theorem Tryd.entersB2 : ∀ args w, (callFunc 55 args).run Tryd.prog w = .ok (.enter 55 args) w := enters_of Tryd.func55 (by kernel_rfl) rfl
set_option maxHeartbeats 2000000 in
theorem behind2_is (pg pl pt : Nat) (ao : Option Addr) (cap : Nat) (ts : List LNode) (k : Nat) (b : Int) (w : World) (hk : k < ts.length) (hF : FitN ts) (hG : GrIn w pg ao cap ts) (hL : w.cell? ⟨pl, 0, none⟩ = some (.func (.func 41) #[] #[.pointer (some ⟨pg, 0, none⟩)])) (hT : w.cell? ⟨pt, 0, none⟩ = some (.int .i64 b)) :
    Calls Tryd.prog 55 #[.int .i64 (k : Int), .pointer (some ⟨pl, 0, none⟩), .pointer (some ⟨pt, 0, none⟩)] w fun e w' => e = .returned (.bool (leadsP (ts.map valNode) k b)) ∧ Below w.heap.size w w' := by
  have hcon := leads_is pg ao cap ts k b w hk hF hG
  clear hG
  go_enter Tryd.func55, Tryd.ntmps55
  go_wp2_with fail
  refine hcon.mono ?_
  rintro e w1 ⟨rfl, hb1⟩
  go_wp2
  go_ret
  exact ⟨rfl, hb1⟩
set_option maxHeartbeats 2000000 in
theorem behind1_is (pg pl pq : Nat) (ao : Option Addr) (cap : Nat) (ts : List LNode) (lo : Option Addr) (lc : Nat) (l : List Int) (b : Int) (w : World) (hl : l.length ≤ 1048576) (hv : ∀ x ∈ l, ∃ k : Nat, k < ts.length ∧ x = (k : Int)) (hF : FitN ts) (hG : GrIn w pg ao cap ts) (hL : Bx w pl [.func (.func 41) #[] #[.pointer (some ⟨pg, 0, none⟩)]]) (hQ : Bx w pq [.slice lo l.length lc]) (hz : kI.In w.heap.size w lo l) :
    Calls Tryd.prog 53 #[.int .i64 b, .pointer (some ⟨pq, 0, none⟩), .pointer (some ⟨pl, 0, none⟩)] w fun e w' => e = .returned (.bool (!ledP (ts.map valNode) l b)) ∧ Below w.heap.size w w' := by
  obtain ⟨V, hV⟩ : ∃ V, V = w.alloc (.cells #[.int .i64 b] 3) := ⟨_, rfl⟩
  have hb : Below w.heap.size w V := by rw [hV]; exact below1 _ _
  have hX : Bx V w.heap.size [.int .i64 b] := by rw [hV]; exact Bx.new [.int .i64 b] _ rfl
  have hcon := containsFuncI_any 55 #[.pointer (some ⟨pl, 0, none⟩), .pointer (some ⟨w.heap.size, 0, none⟩)] Tryd.entersB2 lo lc l (fun a => leadsP (ts.map valNode) a b) V hl (hz.later hb) (fun x W hx hW => by
    obtain ⟨k, hk, rfl⟩ := hv x hx
    exact behind2_is pg pl w.heap.size ao cap ts k b W hk hF ((hG.later hb).later hW) (((hL.later hb).later hW).c 0 rfl) ((hX.later hW).c 0 rfl))
  have hq := (hQ.later hb).c 0 rfl
  have q0 := hQ.c 0 rfl
  have hqs := hQ.size
  have HV := hid hV
  have HB := hid hb
  clear hV hX hz hb hQ hL hG hv
  go_enter Tryd.func53, Tryd.ntmps53
  go_wp2_with fail
  rw [← HV.out]
  refine hcon.mono ?_
  rintro e w1 ⟨rfl, hb1⟩
  have hB1 : Below w.heap.size w w1 := HB.out.trans (hb1.mono HB.out.size)
  clear hb1
  go_wp2
  go_ret
  exact ⟨rfl, hB1⟩
end Go.Proofs.YteamcpcjooglaaaDoor
