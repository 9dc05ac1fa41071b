
/- What is wrong with a graph: the program. No conditions but those written. -/
import Derived.Test.YteamcpcjooglaaaDoorOs
namespace Go.Proofs.YteamcpcjooglaaaDoor
open Go.RowKit

/-- An error of the program's own. -/
abbrev errV (a : Addr) : Value := .iface 92 (.pointer (some a))
/-- Where each error lies. -/
def gbl (i : Nat) : Nat :=
  match i with
  | 0 => 0
  | 1 => 2
  | 2 => 3
  | 3 => 4
  | 4 => 5
  | 5 => 6
  | _ => 1
theorem gbl_lt (i : Nat) : gbl i < 7 := by unfold gbl; split <;> decide
/-- The errors that the program holds. -/
structure Errs (W : World) (ea : Nat → Addr) : Prop where
  cell : ∀ i, i < 7 → W.cell? ⟨gbl i, 0, none⟩ = some (errV (ea i))
  size : 7 ≤ W.heap.size
theorem Errs.below {n : Nat} {W W' : World} {ea : Nat → Addr} (h : Errs W ea) (hb : Below n W W') (hn : 7 ≤ n) : Errs W' ea :=
  ⟨fun i hi => (hb.cell (p := ⟨gbl i, 0, none⟩) (Nat.lt_of_lt_of_le (gbl_lt i) hn)).trans (h.cell i hi), Nat.le_trans h.size hb.size⟩
theorem Errs.later {W W' : World} {ea : Nat → Addr} (h : Errs W ea) (hb : Below W.heap.size W W') : Errs W' ea := h.below hb h.size
theorem Errs.c0 {W : World} {ea : Nat → Addr} (h : Errs W ea) : W.cell? ⟨0, 0, none⟩ = some (errV (ea 0)) := h.cell 0 (by omega)
theorem Errs.c1 {W : World} {ea : Nat → Addr} (h : Errs W ea) : W.cell? ⟨2, 0, none⟩ = some (errV (ea 1)) := h.cell 1 (by omega)
theorem Errs.c2 {W : World} {ea : Nat → Addr} (h : Errs W ea) : W.cell? ⟨3, 0, none⟩ = some (errV (ea 2)) := h.cell 2 (by omega)
theorem Errs.c3 {W : World} {ea : Nat → Addr} (h : Errs W ea) : W.cell? ⟨4, 0, none⟩ = some (errV (ea 3)) := h.cell 3 (by omega)
theorem Errs.c4 {W : World} {ea : Nat → Addr} (h : Errs W ea) : W.cell? ⟨5, 0, none⟩ = some (errV (ea 4)) := h.cell 4 (by omega)
theorem Errs.c5 {W : World} {ea : Nat → Addr} (h : Errs W ea) : W.cell? ⟨6, 0, none⟩ = some (errV (ea 5)) := h.cell 5 (by omega)
theorem Errs.c6 {W : World} {ea : Nat → Addr} (h : Errs W ea) : W.cell? ⟨1, 0, none⟩ = some (errV (ea 6)) := h.cell 6 (by omega)
/-- The tests, one behind the other. -/
def prule (gs : List PNode) (i : Nat) (x : Int) : Bool :=
  match i with
  | 0 => !nameB (el gs x.toNat).1
  | 1 => (gs.take x.toNat).any fun y => sameT y.1 (el gs x.toNat).1
  | 2 => !goodSt (el gs x.toNat).2.1 (el gs x.toNat).2.2.1 (el gs x.toNat).2.2.2.1
  | 3 => decide ((el gs x.toNat).2.2.2.2.1 < 3) || decide (8 < (el gs x.toNat).2.2.2.2.1)
  | _ => !goodNx (el gs x.toNat).2.2.2.2.2 gs.length
def fno (i : Nat) : Nat :=
  match i with
  | 0 => 44
  | 1 => 46
  | 2 => 48
  | 3 => 50
  | _ => 51
theorem fno_enters (i : Nat) : ∀ args w, (callFunc (fno i) args).run Tryd.prog w = .ok (.enter (fno i) args) w := by
  unfold fno
  split
  · exact enters_of Tryd.func44 (by kernel_rfl) rfl
  · exact enters_of Tryd.func46 (by kernel_rfl) rfl
  · exact enters_of Tryd.func48 (by kernel_rfl) rfl
  · exact enters_of Tryd.func50 (by kernel_rfl) rfl
  · exact enters_of Tryd.func51 (by kernel_rfl) rfl
/-- A graph whose rows have room for what they hold, in a row that has it too. -/
structure Roomy (ts : List LNode) (cap : Nat) : Prop where
  row : ts.length ≤ cap
  next : CapN ts
  fit : FitN ts
  len : ts.length ≤ 1048576
theorem rule_is (i p : Nat) (ao : Option Addr) (cap : Nat) (ts : List LNode) (k : Nat) (w : World) (hk : k < ts.length) (hC : Roomy ts cap) (hG : GrIn w p ao cap ts) :
    Calls Tryd.prog (fno i) #[.int .i64 (k : Int), .pointer (some ⟨p, 0, none⟩)] w fun e w' => e = .returned (.bool (prule (ts.map valNode) i (k : Int))) ∧ Below w.heap.size w w' := by
  have e : ((k : Int)).toNat = k := Int.toNat_natCast k
  unfold fno prule
  rw [e]
  split
  · exact rule1_is p ao cap ts k w hk hC.len hC.fit hG
  · exact rule2_is p ao cap ts k w hk hC.len hC.fit hG hC.row
  · exact rule3_is p ao cap ts k w hk hC.len hC.fit hG
  · exact rule4_is p ao cap ts k w hk hC.len hC.fit hG
  · exact rule5_is p ao cap ts k w hk hC.len hC.fit hG hC.next
theorem ruleIdx_any (i p : Nat) (ao : Option Addr) (cap : Nat) (ts : List LNode) (zo : Option Addr) (zc : Nat) (w : World) (hC : Roomy ts cap) (hG : GrIn w p ao cap ts) (hz : kI.In w.heap.size w zo (numsI ts.length)) :
    Calls Tryd.prog 37 #[.slice zo ts.length zc, .func (.func (fno i)) #[] #[.pointer (some ⟨p, 0, none⟩)]] w fun e w' => e = .returned (.int .i64 (fidx (prule (ts.map valNode) i) (numsI ts.length))) ∧ Below w.heap.size w w' := by
  have h := indexFuncI_any (fno i) #[.pointer (some ⟨p, 0, none⟩)] (fno_enters i) zo zc (numsI ts.length) (prule (ts.map valNode) i) w (by rw [numsI_len]; exact hC.len) hz (fun x W hx hW => by
    obtain ⟨k, hk, rfl⟩ := numsI_mem hx
    exact rule_is i p ao cap ts k W hk hC (hG.later hW))
  rw [numsI_len] at h
  exact h
/-- The rules, as they lie in memory. -/
def rulesV (ea : Nat → Addr) (p : Nat) : List Value := [errV (ea 1), .func (.func (fno 0)) #[] #[.pointer (some ⟨p, 0, none⟩)], errV (ea 2), .func (.func (fno 1)) #[] #[.pointer (some ⟨p, 0, none⟩)], errV (ea 3), .func (.func (fno 2)) #[] #[.pointer (some ⟨p, 0, none⟩)], errV (ea 4), .func (.func (fno 3)) #[] #[.pointer (some ⟨p, 0, none⟩)], errV (ea 5), .func (.func (fno 4)) #[] #[.pointer (some ⟨p, 0, none⟩)]]
set_option maxRecDepth 10000 in
set_option maxHeartbeats 2000000 in
theorem rulesOf_any (ao : Option Addr) (cap : Nat) (ts : List LNode) (ea : Nat → Addr) (w : World) (hE : Errs w ea) (hz : DIn dNode w.heap.size w ao ts) :
    Calls Tryd.prog 36 #[.slice ao ts.length cap] w fun e w' => ∃ rb p, e = .returned (.slice (some ⟨rb, 0, none⟩) 5 5) ∧ Bx w' rb (rulesV ea p) ∧ GrIn w' p ao cap ts ∧ Below w.heap.size w w' := by
  obtain ⟨V, hV⟩ : ∃ V, V = w.alloc (.cells #[.slice ao ts.length cap] 26) := ⟨_, rfl⟩
  have hb : Below w.heap.size w V := by rw [hV]; exact below1 _ _
  have hX : Bx V w.heap.size [.slice ao ts.length cap] := by rw [hV]; exact Bx.new [.slice ao ts.length cap] _ rfl
  obtain ⟨U, hU⟩ : ∃ U, U = V.alloc (.cells (rulesV ea w.heap.size).toArray 68) := ⟨_, rfl⟩
  have hb2 : Below V.heap.size V U := by rw [hU]; exact below1 _ _
  have hR : Bx U V.heap.size (rulesV ea w.heap.size) := by rw [hU]; exact Bx.new (rulesV ea w.heap.size) _ rfl
  have hs : V.heap.size = w.heap.size + 1 := by rw [hV]; simp
  have HG : Hid (GrIn U w.heap.size ao cap ts) := GrIn.later ⟨hX, hz.later dNode_ok hb⟩ hb2
  have HB := hid (hb.trans (hb2.mono hb.size))
  have HU : Hid (U = (w.alloc (.cells #[.slice ao ts.length cap] 26)).alloc (.cells (rulesV ea w.heap.size).toArray 68)) := by rw [Hid, hU, hV]
  have HR := hid hR
  have e1 := hE.c1
  have e2 := hE.c2
  have e3 := hE.c3
  have e4 := hE.c4
  have e5 := hE.c5
  have h7 := hE.size
  have l1 : 1 < w.heap.size := by omega
  have l2 : 2 < w.heap.size := by omega
  have l3 : 3 < w.heap.size := by omega
  have l4 : 4 < w.heap.size := by omega
  have l5 : 5 < w.heap.size := by omega
  have l6 : 6 < w.heap.size := by omega
  rw [hs] at HR
  simp only [errV] at e1 e2 e3 e4 e5
  clear hU hV hR hX hz hb hb2 hs hE
  go_enter Tryd.func36, Tryd.ntmps36
  go_wp2
  go_ret
  refine ⟨w.heap.size + 1, w.heap.size, rfl, ?_, ?_, ?_⟩
  · have h := HR.out; rw [HU.out] at h; exact h
  · have h := HG.out; rw [HU.out] at h; exact h
  · have h := HB.out; rw [HU.out] at h; exact h
end Go.Proofs.YteamcpcjooglaaaDoor
