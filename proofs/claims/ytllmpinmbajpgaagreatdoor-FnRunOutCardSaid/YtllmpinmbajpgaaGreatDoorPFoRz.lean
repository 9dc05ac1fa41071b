
/- What is wrong with a graph: the program. No conditions but those written. Rows of tokens, of outs, of losts: sizes, copies, comparisons. No conditions but those written. Rows of rows of tokens: sizes, copies, comparisons. No conditions but those written. Hands: rows of tokens of their own behind one row of heads. No conditions but those written. Pipes: sizes, copies, comparisons. No conditions but those written. A flow in memory. No conditions but those written. Counting atomically. No conditions but those written. A region that draws its order, walked once: what yields the same wherever S holds comes first; behind the last operations S need not hold. No conditions but those written. -/
import Derived.Test.YtllmpinmbajpgaaGreatDoorPRwOs
import Derived.Test.YtllmpinmbajpgaaGreatDoorPGenFq
import Derived.Laws.LoneSync
import Derived.Laws.BitsLemmas
import Derived.OrdersHeld
import Derived.Deep.RegionHeld3
namespace Go.Proofs.YtllmpinmbajpgaaGreatDoor
section
open Go.RowKit

/-- An error of the program's own. -/
abbrev errV (a : Addr) : Value := .iface 199 (.pointer (some a))
/-- Where each error lies. -/
def gbl (i : Nat) : Nat :=
 match i with
 | 0 => 0
 | 1 => 2
 | 2 => 3
 | 3 => 4
 | 4 => 5
 | 5 => 6
 | _ => 1
theorem gbl_lt (i : Nat) : gbl i < 7 := by unfold gbl; split <;> decide
/-- The errors that the program holds. -/
structure Errs (W : World) (ea : Nat → Addr) : Prop where
 cell : ∀ i, i < 7 → W.cell? ⟨gbl i, 0, none⟩ = some (errV (ea i))
 size : 7 ≤ W.heap.size
theorem Errs.below {n : Nat} {W W' : World} {ea : Nat → Addr} (h : Errs W ea) (hb : Below n W W') (hn : 7 ≤ n) : Errs W' ea :=
 ⟨fun i hi => (hb.cell (p := ⟨gbl i, 0, none⟩) (Nat.lt_of_lt_of_le (gbl_lt i) hn)).trans (h.cell i hi), Nat.le_trans h.size hb.size⟩
theorem Errs.later {W W' : World} {ea : Nat → Addr} (h : Errs W ea) (hb : Below W.heap.size W W') : Errs W' ea := h.below hb h.size
theorem Errs.c0 {W : World} {ea : Nat → Addr} (h : Errs W ea) : W.cell? ⟨0, 0, none⟩ = some (errV (ea 0)) := h.cell 0 (by omega)
theorem Errs.c1 {W : World} {ea : Nat → Addr} (h : Errs W ea) : W.cell? ⟨2, 0, none⟩ = some (errV (ea 1)) := h.cell 1 (by omega)
theorem Errs.c2 {W : World} {ea : Nat → Addr} (h : Errs W ea) : W.cell? ⟨3, 0, none⟩ = some (errV (ea 2)) := h.cell 2 (by omega)
theorem Errs.c3 {W : World} {ea : Nat → Addr} (h : Errs W ea) : W.cell? ⟨4, 0, none⟩ = some (errV (ea 3)) := h.cell 3 (by omega)
theorem Errs.c4 {W : World} {ea : Nat → Addr} (h : Errs W ea) : W.cell? ⟨5, 0, none⟩ = some (errV (ea 4)) := h.cell 4 (by omega)
theorem Errs.c5 {W : World} {ea : Nat → Addr} (h : Errs W ea) : W.cell? ⟨6, 0, none⟩ = some (errV (ea 5)) := h.cell 5 (by omega)
theorem Errs.c6 {W : World} {ea : Nat → Addr} (h : Errs W ea) : W.cell? ⟨1, 0, none⟩ = some (errV (ea 6)) := h.cell 6 (by omega)
/-- The tests, one behind the other. -/
def prule (gs : List PNode) (i : Nat) (x : Int) : Bool :=
 match i with
 | 0 => !nameB (el gs x.toNat).1
 | 1 => (gs.take x.toNat).any fun y => sameT y.1 (el gs x.toNat).1
 | 2 => !goodSt (el gs x.toNat).2.1 (el gs x.toNat).2.2.1 (el gs x.toNat).2.2.2.1
 | 3 => decide ((el gs x.toNat).2.2.2.2.1 < 3) || decide (8 < (el gs x.toNat).2.2.2.2.1)
 | _ => !goodNx (el gs x.toNat).2.2.2.2.2 gs.length
def fno (i : Nat) : Nat :=
 match i with
 | 0 => 112
 | 1 => 114
 | 2 => 116
 | 3 => 118
 | _ => 119
theorem fno_enters (i : Nat) : ∀ args w, (callFunc (fno i) args).run Tryz.prog w = .ok (.enter (fno i) args) w := by
 unfold fno
 split
 ·exact enters_of Tryz.func112 (by kernel_rfl) rfl
 ·exact enters_of Tryz.func114 (by kernel_rfl) rfl
 ·exact enters_of Tryz.func116 (by kernel_rfl) rfl
 ·exact enters_of Tryz.func118 (by kernel_rfl) rfl
 ·exact enters_of Tryz.func119 (by kernel_rfl) rfl
/-- A graph whose rows have room for what they hold, in a row that has it too. -/
structure Roomy (ts : List LNode) (cap : Nat) : Prop where
 row : ts.length ≤ cap
 next : CapN ts
 fit : FitN ts
 len : ts.length ≤ 1048576
theorem rule_is (i p : Nat) (ao : Option Addr) (cap : Nat) (ts : List LNode) (k : Nat) (w : World) (hk : k < ts.length) (hC : Roomy ts cap) (hG : GrIn w p ao cap ts) :
  Calls Tryz.prog (fno i) #[.int .i64 (k : Int), .pointer (some ⟨p, 0, none⟩)] w fun e w' => e = .returned (.bool (prule (ts.map valNode) i (k : Int))) ∧ Below w.heap.size w w' := by
 have e : ((k : Int)).toNat = k := Int.toNat_natCast k
 unfold fno prule
 rw [e]
 split
 ·exact rule1_is p ao cap ts k w hk hC.len hC.fit hG
 ·exact rule2_is p ao cap ts k w hk hC.len hC.fit hG hC.row
 ·exact rule3_is p ao cap ts k w hk hC.len hC.fit hG
 ·exact rule4_is p ao cap ts k w hk hC.len hC.fit hG
 ·exact rule5_is p ao cap ts k w hk hC.len hC.fit hG hC.next
theorem ruleIdx_any (i p : Nat) (ao : Option Addr) (cap : Nat) (ts : List LNode) (zo : Option Addr) (zc : Nat) (w : World) (hC : Roomy ts cap) (hG : GrIn w p ao cap ts) (hz : kI.In w.heap.size w zo (numsI ts.length)) :
  Calls Tryz.prog 84 #[.slice zo ts.length zc, .func (.func (fno i)) #[] #[.pointer (some ⟨p, 0, none⟩)]] w fun e w' => e = .returned (.int .i64 (fidx (prule (ts.map valNode) i) (numsI ts.length))) ∧ Below w.heap.size w w' := by
 have h := indexFuncI_any (fno i) #[.pointer (some ⟨p, 0, none⟩)] (fno_enters i) zo zc (numsI ts.length) (prule (ts.map valNode) i) w (by rw [numsI_len]; exact hC.len) hz (fun x W hx hW => by
  obtain ⟨k, hk, rfl⟩ := numsI_mem hx;exact rule_is i p ao cap ts k W hk hC (hG.later hW))
 rw [numsI_len] at h;exact h
/-- The rules, as they lie in memory. -/
def rulesV (ea : Nat → Addr) (p : Nat) : List Value := [errV (ea 1), .func (.func (fno 0)) #[] #[.pointer (some ⟨p, 0, none⟩)], errV (ea 2), .func (.func (fno 1)) #[] #[.pointer (some ⟨p, 0, none⟩)], errV (ea 3), .func (.func (fno 2)) #[] #[.pointer (some ⟨p, 0, none⟩)], errV (ea 4), .func (.func (fno 3)) #[] #[.pointer (some ⟨p, 0, none⟩)], errV (ea 5), .func (.func (fno 4)) #[] #[.pointer (some ⟨p, 0, none⟩)]]
set_option maxRecDepth 10000 in
set_option maxHeartbeats 2000000 in
theorem rulesOf_any (ao : Option Addr) (cap : Nat) (ts : List LNode) (ea : Nat → Addr) (w : World) (hE : Errs w ea) (hz : DIn dNode w.heap.size w ao ts) :
  Calls Tryz.prog 83 #[.slice ao ts.length cap] w fun e w' => ∃ rb p, e = .returned (.slice (some ⟨rb, 0, none⟩) 5 5) ∧ Bx w' rb (rulesV ea p) ∧ GrIn w' p ao cap ts ∧ Below w.heap.size w w' := by
 obtain ⟨V, hV⟩ : ∃ V, V = w.alloc (.cells #[.slice ao ts.length cap] 23) := ⟨_, rfl⟩;have hb : Below w.heap.size w V := by rw [hV]; exact below1 _ _
 have hX : Bx V w.heap.size [.slice ao ts.length cap] := by rw [hV]; exact Bx.new [.slice ao ts.length cap] _ rfl
 obtain ⟨U, hU⟩ : ∃ U, U = V.alloc (.cells (rulesV ea w.heap.size).toArray 139) := ⟨_, rfl⟩;have hb2 : Below V.heap.size V U := by rw [hU]; exact below1 _ _
 have hR : Bx U V.heap.size (rulesV ea w.heap.size) := by rw [hU]; exact Bx.new (rulesV ea w.heap.size) _ rfl
 have hs : V.heap.size = w.heap.size + 1 := by rw [hV]; simp
 have HG : Hid (GrIn U w.heap.size ao cap ts) := GrIn.later ⟨hX, hz.later dNode_ok hb⟩ hb2;have HB := hid (hb.trans (hb2.mono hb.size));have HU : Hid (U = (w.alloc (.cells #[.slice ao ts.length cap] 23)).alloc (.cells (rulesV ea w.heap.size).toArray 139)) := by rw [Hid, hU, hV]
 have HR := hid hR;have e1 := hE.c1;have e2 := hE.c2;have e3 := hE.c3;have e4 := hE.c4;have e5 := hE.c5;have h7 := hE.size;have l1 : 1 < w.heap.size := by omega
 have l2 : 2 < w.heap.size := by omega
 have l3 : 3 < w.heap.size := by omega
 have l4 : 4 < w.heap.size := by omega
 have l5 : 5 < w.heap.size := by omega
 have l6 : 6 < w.heap.size := by omega
 rw [hs] at HR;simp only [errV] at e1 e2 e3 e4 e5;clear hU hV hR hX hz hb hb2 hs hE;go_enter Tryz.func83, Tryz.ntmps83;go_wp2;go_ret;refine ⟨w.heap.size + 1, w.heap.size, rfl, ?_, ?_, ?_⟩
 ·have h := HR.out; rw [HU.out] at h; exact h
 ·have h := HG.out; rw [HU.out] at h; exact h
 ·have h := HB.out; rw [HU.out] at h; exact h
end
section
open Go.RowKit

/-- A row of Token. -/
def kTk : Kind (Int × Int × Int) := ⟨112, 51, 3, fun t => [.int .i64 t.1, .int .i64 t.2.1, .int .i64 t.2.2], fun _ => rfl, fun a v h => by simp at h; rcases h with rfl | rfl | rfl <;> rfl⟩
theorem Tryz.info112 : (Tryz.prog.info? 112).map (fun i => (i.zero, i.size, i.bytes)) = some (some (.agg #[.int .i64 0, .int .i64 0, .int .i64 0]), 3, 24) := by kernel_rfl
theorem kTk_ok : kTk.Ok := kind_ok (K := kTk) Tryz.underlying51 Tryz.info112 rfl (by decide) (by decide)
theorem kTk_at {n : Nat} {W : World} {ao : Option Addr} {ts : List (Int × Int × Int)} (h : kTk.In n W ao ts) {k : Nat} (hk : k < ts.length) :
  ∃ b off, ao = some ⟨b, off, none⟩ ∧ b < n ∧ ∀ j, j < ts.length → W.cell? ⟨b, off + j * 3, none⟩ = some (.int .i64 (el ts j).1) ∧ W.cell? ⟨b, off + j * 3 + 1, none⟩ = some (.int .i64 (el ts j).2.1) ∧ W.cell? ⟨b, off + j * 3 + 2, none⟩ = some (.int .i64 (el ts j).2.2) := by
 obtain ⟨b, off, e, hb, hc⟩ := h.pos hk;exact ⟨b, off, e, hb, fun j hj => ⟨hc j hj 0 (by decide), hc j hj 1 (by decide), hc j hj 2 (by decide)⟩⟩
theorem kTk_one {n : Nat} {W : World} {p : Nat} {t : Int × Int × Int} (hp : p < n) (h0 : W.cell? ⟨p, 0, none⟩ = some (.int .i64 t.1)) (h1 : W.cell? ⟨p, 1, none⟩ = some (.int .i64 t.2.1)) (h2 : W.cell? ⟨p, 2, none⟩ = some (.int .i64 t.2.2)) : kTk.In n W (some ⟨p, 0, none⟩) [t] := by
 refine Kind.In.mk1 hp fun i hi => ?_
 rw [Nat.zero_add];have hi' : i < 3 := hi
 rcases (show i = 0 ∨ i = 1 ∨ i = 2 from by omega) with rfl | rfl | rfl
 ·exact h0
 ·exact h1
 ·exact h2
/-- A row of Out. -/
def kOu : Kind (Int × Int × Int) := ⟨53, 28, 3, fun t => [.int .i64 t.1, .int .i64 t.2.1, .int .i64 t.2.2], fun _ => rfl, fun a v h => by simp at h; rcases h with rfl | rfl | rfl <;> rfl⟩
theorem Tryz.info53 : (Tryz.prog.info? 53).map (fun i => (i.zero, i.size, i.bytes)) = some (some (.agg #[.int .i64 0, .int .i64 0, .int .i64 0]), 3, 24) := by kernel_rfl
theorem kOu_ok : kOu.Ok := kind_ok (K := kOu) Tryz.underlying28 Tryz.info53 rfl (by decide) (by decide)
theorem kOu_at {n : Nat} {W : World} {ao : Option Addr} {ts : List (Int × Int × Int)} (h : kOu.In n W ao ts) {k : Nat} (hk : k < ts.length) :
  ∃ b off, ao = some ⟨b, off, none⟩ ∧ b < n ∧ ∀ j, j < ts.length → W.cell? ⟨b, off + j * 3, none⟩ = some (.int .i64 (el ts j).1) ∧ W.cell? ⟨b, off + j * 3 + 1, none⟩ = some (.int .i64 (el ts j).2.1) ∧ W.cell? ⟨b, off + j * 3 + 2, none⟩ = some (.int .i64 (el ts j).2.2) := by
 obtain ⟨b, off, e, hb, hc⟩ := h.pos hk;exact ⟨b, off, e, hb, fun j hj => ⟨hc j hj 0 (by decide), hc j hj 1 (by decide), hc j hj 2 (by decide)⟩⟩
theorem kOu_one {n : Nat} {W : World} {p : Nat} {t : Int × Int × Int} (hp : p < n) (h0 : W.cell? ⟨p, 0, none⟩ = some (.int .i64 t.1)) (h1 : W.cell? ⟨p, 1, none⟩ = some (.int .i64 t.2.1)) (h2 : W.cell? ⟨p, 2, none⟩ = some (.int .i64 t.2.2)) : kOu.In n W (some ⟨p, 0, none⟩) [t] := by
 refine Kind.In.mk1 hp fun i hi => ?_
 rw [Nat.zero_add];have hi' : i < 3 := hi
 rcases (show i = 0 ∨ i = 1 ∨ i = 2 from by omega) with rfl | rfl | rfl
 ·exact h0
 ·exact h1
 ·exact h2
/-- A row of Lost. -/
def kLo : Kind (Int × Int × Int × Int) := ⟨57, 29, 4, fun t => [.int .i64 t.1, .int .i64 t.2.1, .int .i64 t.2.2.1, .int .i64 t.2.2.2], fun _ => rfl, fun a v h => by simp at h; rcases h with rfl | rfl | rfl | rfl <;> rfl⟩
theorem Tryz.info57 : (Tryz.prog.info? 57).map (fun i => (i.zero, i.size, i.bytes)) = some (some (.agg #[.int .i64 0, .int .i64 0, .int .i64 0, .int .i64 0]), 4, 32) := by kernel_rfl
theorem kLo_ok : kLo.Ok := kind_ok (K := kLo) Tryz.underlying29 Tryz.info57 rfl (by decide) (by decide)
theorem kLo_at {n : Nat} {W : World} {ao : Option Addr} {ts : List (Int × Int × Int × Int)} (h : kLo.In n W ao ts) {k : Nat} (hk : k < ts.length) :
  ∃ b off, ao = some ⟨b, off, none⟩ ∧ b < n ∧ ∀ j, j < ts.length → W.cell? ⟨b, off + j * 4, none⟩ = some (.int .i64 (el ts j).1) ∧ W.cell? ⟨b, off + j * 4 + 1, none⟩ = some (.int .i64 (el ts j).2.1) ∧ W.cell? ⟨b, off + j * 4 + 2, none⟩ = some (.int .i64 (el ts j).2.2.1) ∧ W.cell? ⟨b, off + j * 4 + 3, none⟩ = some (.int .i64 (el ts j).2.2.2) := by
 obtain ⟨b, off, e, hb, hc⟩ := h.pos hk;exact ⟨b, off, e, hb, fun j hj => ⟨hc j hj 0 (by decide), hc j hj 1 (by decide), hc j hj 2 (by decide), hc j hj 3 (by decide)⟩⟩
theorem kLo_one {n : Nat} {W : World} {p : Nat} {t : Int × Int × Int × Int} (hp : p < n) (h0 : W.cell? ⟨p, 0, none⟩ = some (.int .i64 t.1)) (h1 : W.cell? ⟨p, 1, none⟩ = some (.int .i64 t.2.1)) (h2 : W.cell? ⟨p, 2, none⟩ = some (.int .i64 t.2.2.1)) (h3 : W.cell? ⟨p, 3, none⟩ = some (.int .i64 t.2.2.2)) : kLo.In n W (some ⟨p, 0, none⟩) [t] := by
 refine Kind.In.mk1 hp fun i hi => ?_
 rw [Nat.zero_add];have hi' : i < 4 := hi
 rcases (show i = 0 ∨ i = 1 ∨ i = 2 ∨ i = 3 from by omega) with rfl | rfl | rfl | rfl
 ·exact h0
 ·exact h1
 ·exact h2
 ·exact h3
end
section
open Go.RowKit

/-- A row of slices: where each begins, its length, its room. -/
def kRT : Kind (Option Addr × Nat × Nat) := ⟨51, 27, 1, fun t => [.slice t.1 t.2.1 t.2.2], fun _ => rfl, fun a v h => by simp at h; subst h; rfl⟩
theorem kRT_at {n : Nat} {W : World} {ao : Option Addr} {hs : List (Option Addr × Nat × Nat)} (h : kRT.In n W ao hs) {k : Nat} (hk : k < hs.length) :
  ∃ b off, ao = some ⟨b, off, none⟩ ∧ b < n ∧ ∀ j, j < hs.length → W.cell? ⟨b, off + j, none⟩ = some (.slice (el hs j).1 (el hs j).2.1 (el hs j).2.2) := by
 obtain ⟨b, off, e, hb, hc⟩ := h.pos hk;refine ⟨b, off, e, hb, fun j hj => ?_⟩;have := hc j hj 0 (by decide)
 simpa [kRT] using this
/-- The rows ls lie below n; their heads hs lie at ao. -/
def InRT (n : Nat) (W : World) (ao : Option Addr) (hs : List (Option Addr × Nat × Nat)) (ls : List (List (Int × Int × Int))) : Prop :=
 kRT.In n W ao hs ∧ hs.length = ls.length ∧ ∀ j, j < ls.length → (el hs j).2.1 = (el ls j).length ∧ kTk.In n W (el hs j).1 (el ls j)
theorem InRT.below {n : Nat} {W W' : World} {ao : Option Addr} {hs : List (Option Addr × Nat × Nat)} {ls : List (List (Int × Int × Int))} (h : InRT n W ao hs ls) (hb : Below n W W') : InRT n W' ao hs ls :=
 ⟨h.1.below hb, h.2.1, fun j hj => ⟨(h.2.2 j hj).1, (h.2.2 j hj).2.below hb⟩⟩
theorem InRT.up {n m : Nat} {W : World} {ao : Option Addr} {hs : List (Option Addr × Nat × Nat)} {ls : List (List (Int × Int × Int))} (h : InRT n W ao hs ls) (hm : n ≤ m) : InRT m W ao hs ls :=
 ⟨h.1.up hm, h.2.1, fun j hj => ⟨(h.2.2 j hj).1, (h.2.2 j hj).2.up hm⟩⟩
theorem InRT.later {W W' : World} {ao : Option Addr} {hs : List (Option Addr × Nat × Nat)} {ls : List (List (Int × Int × Int))} (h : InRT W.heap.size W ao hs ls) (hb : Below W.heap.size W W') : InRT W'.heap.size W' ao hs ls := (h.below hb).up hb.size
/-- One of the heads, and its row. -/
theorem InRT.at {n : Nat} {W : World} {ao : Option Addr} {hs : List (Option Addr × Nat × Nat)} {ls : List (List (Int × Int × Int))} (h : InRT n W ao hs ls) {k : Nat} (hk : k < ls.length) :
  ∃ b off o c, ao = some ⟨b, off, none⟩ ∧ b < n ∧ W.cell? ⟨b, off + k, none⟩ = some (.slice o (el ls k).length c) ∧ el hs k = (o, (el ls k).length, c) ∧ kTk.In n W o (el ls k) := by
 obtain ⟨b, off, e, hb, hc⟩ := kRT_at h.1 (k := k) (by rw [h.2.1]; exact hk);obtain ⟨h1, h2⟩ := h.2.2 k hk;refine ⟨b, off, (el hs k).1, (el hs k).2.2, e, hb, ?_, ?_, h2⟩
 ·rw [hc k (by rw [h.2.1]; exact hk), h1]
 ·rw [← h1]
/-- The rows ls are of their own, from lo on and before hi, apart from one another; their heads hs too. -/
def FrRT (lo hi : Nat) (W : World) (ao : Option Addr) (c : Nat) (hs : List (Option Addr × Nat × Nat)) (ls : List (List (Int × Int × Int))) : Prop :=
 kRT.Fresh lo hi W ao c hs ∧ hs.length = ls.length ∧ (∀ j, j < ls.length → (el hs j).2.1 = (el ls j).length ∧ kTk.Fresh lo hi W (el hs j).1 (el hs j).2.2 (el ls j)) ∧
  (∀ i j, i < j → j < ls.length → Off (el hs i).1 (el ls i).length (el hs j).1 (el ls j).length)
section
variable {lo hi : Nat} {W W' : World} {ao : Option Addr} {c : Nat} {hs : List (Option Addr × Nat × Nat)} {ls : List (List (Int × Int × Int))}
theorem FrRT.in (h : FrRT lo hi W ao c hs ls) : InRT W.heap.size W ao hs ls := ⟨h.1.in, h.2.1, fun j hj => ⟨(h.2.2.1 j hj).1, (h.2.2.1 j hj).2.in⟩⟩
theorem FrRT.keep (h : FrRT lo hi W ao c hs ls) (hk : ∀ k, lo ≤ k → k < hi → k < W.heap.size → W'.heap[k]? = W.heap[k]?) : FrRT lo hi W' ao c hs ls :=
 ⟨h.1.keep hk, h.2.1, fun j hj => ⟨(h.2.2.1 j hj).1, (h.2.2.1 j hj).2.keep hk⟩, h.2.2.2⟩
theorem FrRT.later (h : FrRT lo hi W ao c hs ls) (hb : Below W.heap.size W W') : FrRT lo hi W' ao c hs ls := h.keep fun k _ _ hk => hb.block k hk
theorem FrRT.wide {lo' hi' : Nat} (h : FrRT lo hi W ao c hs ls) (h1 : lo' ≤ lo) (h2 : hi ≤ hi') : FrRT lo' hi' W ao c hs ls :=
 ⟨h.1.wide h1 h2, h.2.1, fun j hj => ⟨(h.2.2.1 j hj).1, (h.2.2.1 j hj).2.wide h1 h2⟩, h.2.2.2⟩
theorem FrRT.nil (lo hi : Nat) (W : World) (ao : Option Addr) (c : Nat) : FrRT lo hi W ao c [] [] := ⟨.inl rfl, rfl, fun j hj => by simp at hj, fun i j _ hj => by simp at hj⟩
end
/-- How many there are in all. -/
def totT (ls : List (List (Int × Int × Int))) : Nat := (ls.map List.length).sum
theorem totT_take {ls : List (List (Int × Int × Int))} {k : Nat} (h : k < ls.length) : totT (ls.take (k + 1)) = totT (ls.take k) + (el ls k).length := by
 rw [take_succ_el h]; simp [totT]
theorem totT_le (ls : List (List (Int × Int × Int))) (k : Nat) : totT (ls.take k) ≤ totT ls := by
 induction ls generalizing k with
 | nil => simp [totT]
 | cons x r ih =>
  cases k with
  | zero => simp [totT]
  | succ k => simp only [List.take_succ_cons, totT, List.map_cons, List.sum_cons]; have := ih k; simp only [totT] at this; omega
theorem totT_el {ls : List (List (Int × Int × Int))} {k : Nat} (h : k < ls.length) : totT (ls.take k) + (el ls k).length ≤ totT ls := by
 rw [← totT_take h]; exact totT_le ls _
end
section
open Go.RowKit

/-- At g lie the heads xs of the rows ls; each row is nil or lies in a block of its own behind g. -/
structure HandsT (g : Nat) (W : World) (xs : List Value) (ls : List (List (Int × Int × Int))) : Prop where
 len : xs.length = ls.length
 head : W.ownsRow g 51 1 (.slice (some ⟨g, 0, none⟩) ls.length ls.length) ls.length xs
 row : ∀ j, j < ls.length → kTk.Own (g + 1) W (el xs j) (el ls j)
 off : ∀ i j, i < j → j < ls.length → ∀ b, (el xs i).ownBlock = some b → (el xs j).ownBlock ≠ some b
theorem el_set_same {α : Type} [Inhabited α] {l : List α} {k : Nat} {x : α} (h : k < l.length) : el (l.set k x) k = x := by simp [el, h]
theorem el_set_far {α : Type} [Inhabited α] {l : List α} {k j : Nat} {x : α} (h : j ≠ k) : el (l.set k x) j = el l j := by simp [el, Ne.symm h]
theorem own_block_lt {α : Type} {K : Kind α} {lo : Nat} {W : World} {v : Value} {xs : List α} (h : K.Own lo W v xs) {b : Nat} (hb : v.ownBlock = some b) : lo ≤ b ∧ b < W.heap.size := by
 rcases h.2 with ⟨e, _⟩ | ⟨g, cap, cur, e, hg, hh, _⟩
 ·subst e; simp [Value.ownBlock] at hb
 ·subst e; simp [Value.ownBlock] at hb; subst hb; exact ⟨hg, (Array.getElem?_eq_some_iff.1 hh).1⟩
theorem own_keep {α : Type} {K : Kind α} {lo : Nat} {W W' : World} {v : Value} {xs : List α} (h : K.Own lo W v xs) (hk : ∀ b, v.ownBlock = some b → W'.heap[b]? = W.heap[b]?) : K.Own lo W' v xs := by
 obtain ⟨h1, h2⟩ := h;refine ⟨h1, ?_⟩
 rcases h2 with h2 | ⟨g, cap, cur, e, hg, hh, r⟩
 ·exact .inl h2
 ·refine .inr ⟨g, cap, cur, e, hg, ?_, r⟩;rw [hk g (by subst e; rfl)]; exact hh
/-- Rows of other elements lie in other blocks. -/
theorem own_ty {α β : Type} {K : Kind α} {K2 : Kind β} {lo lo2 : Nat} {W : World} {v u : Value} {xs : List α} {ys : List β} (h : K.Own lo W v xs) (h2 : K2.Own lo2 W u ys) (hne : K.ty ≠ K2.ty) {b : Nat} (hb : v.ownBlock = some b) : u.ownBlock ≠ some b := fun hb2 => by
 rcases h.2 with ⟨e, _⟩ | ⟨g, cap, cur, e, _, hh, _⟩
 ·subst e; simp [Value.ownBlock] at hb
 ·rcases h2.2 with ⟨e2, _⟩ | ⟨g2, cap2, cur2, e2, _, hh2, _⟩
  ·subst e2; simp [Value.ownBlock] at hb2
  ·subst e e2
   simp [Value.ownBlock] at hb hb2
   subst hb hb2;rw [hh] at hh2
   simp at hh2
   exact hne hh2.2
theorem HandsT.later {g : Nat} {W W' : World} {xs : List Value} {ls : List (List (Int × Int × Int))} (h : HandsT g W xs ls) (hb : Below W.heap.size W W') : HandsT g W' xs ls :=
 ⟨h.len, ownsRow_below h.head hb, fun j hj => (h.row j hj).below hb, h.off⟩
theorem HandsT.size {g : Nat} {W : World} {xs : List Value} {ls : List (List (Int × Int × Int))} (h : HandsT g W xs ls) : g < W.heap.size := (owns_lt h.head).2
/-- One row has grown; its head is written. -/
theorem HandsT.put {g t : Nat} {W W' : World} {xs : List Value} {ls : List (List (Int × Int × Int))} {v : Value} {x : List (Int × Int × Int)} (h : HandsT g W xs ls) (ht : t < ls.length) (hO : kTk.Own (g + 1) W' v x) (hG : W.grownBy W' (el xs t).ownBlock) (hw : ∀ b, v.ownBlock = some b → (el xs t).ownBlock = some b ∨ W.heap.size ≤ b) :
  HandsT g (W'.setCell ⟨g, t, none⟩ v) (xs.set t v) (ls.set t x) := by
 have hx : t < xs.length := by rw [h.len]; exact ht
 have hkeep : ∀ b, b < W.heap.size → (el xs t).ownBlock ≠ some b → W'.heap[b]? = W.heap[b]? := fun b hb hne => hG.block b hb (fun e => hne e.symm)
 have hgne : (el xs t).ownBlock ≠ some g := fun e => by have := (own_block_lt (h.row t ht) e).1; omega
 have hset : ∀ b, b ≠ g → (W'.setCell ⟨g, t, none⟩ v).heap[b]? = W'.heap[b]? := fun b hb => Below.heap_setCell _ _ _ _ hb
 have hhead : W'.ownsRow g 51 1 (.slice (some ⟨g, 0, none⟩) ls.length ls.length) ls.length xs := owns_block h.head (hkeep g h.size hgne);refine ⟨by simp [h.len], ?_, ?_, ?_⟩
 ·rw [List.length_set];exact (hhead.stored t v).1
 ·intro j hj;rw [List.length_set] at hj
  by_cases e : j = t
  ·subst e;rw [el_set_same hx, el_set_same ht];exact own_keep hO fun b hb => hset b (by have := (own_block_lt hO hb).1; omega)
  ·rw [el_set_far e, el_set_far e];refine own_keep (h.row j hj) fun b hb => ?_
   have hbl := own_block_lt (h.row j hj) hb;rw [hset b (by omega)];refine hkeep b hbl.2 fun e' => ?_
   rcases Nat.lt_or_ge j t with hjt | hjt
   ·exact h.off j t hjt ht b hb e'
   ·exact h.off t j (by omega) hj b e' hb
 ·intro i j hij hj b hi;rw [List.length_set] at hj
  by_cases e1 : i = t
  ·subst e1;rw [el_set_same hx] at hi;rw [el_set_far (by omega)];intro hjb
   rcases hw b hi with h1 | h1
   ·exact h.off i j hij hj b h1 hjb
   ·have := (own_block_lt (h.row j hj) hjb).2; omega
  ·rw [el_set_far e1] at hi
   by_cases e2 : j = t
   ·subst e2;rw [el_set_same hx];intro hjb
    rcases hw b hjb with h1 | h1
    ·exact h.off i j hij hj b hi h1
    ·have := (own_block_lt (h.row i (by omega)) hi).2; omega
   ·rw [el_set_far e2];exact h.off i j hij hj b hi
/-- The heads are read out of the values. -/
def hdr : Value → Option Addr × Nat × Nat
 | .slice o n c => (o, n, c)
 | _ => (none, 0, 0)
theorem HandsT.slice {g j : Nat} {W : World} {xs : List Value} {ls : List (List (Int × Int × Int))} (h : HandsT g W xs ls) (hj : j < ls.length) : ∃ o c, el xs j = .slice o (el ls j).length c ∧ (o = none → c = 0) ∧ kTk.Fresh (g + 1) W.heap.size W o c (el ls j) := (h.row j hj).fresh
theorem el_map {α β : Type} [Inhabited α] [Inhabited β] (f : α → β) {l : List α} {j : Nat} (h : j < l.length) : el (l.map f) j = f (el l j) := by simp [el, h]
theorem HandsT.flat {g : Nat} {W : World} {xs : List Value} {ls : List (List (Int × Int × Int))} (h : HandsT g W xs ls) : kRT.flat (xs.map hdr) = xs := by
 refine (kRT.flat_of xs (xs.map hdr) (by simp [kRT]) fun j hj i hi => ?_).symm;have e : i = 0 := by have : i < 1 := hi; omega
 subst e;rw [List.length_map] at hj;obtain ⟨o, c, hs, _, _⟩ := h.slice (j := j) (by rw [← h.len]; exact hj);rw [el_map hdr hj, hs]
 show xs[j * 1 + 0]? = _
 rw [Nat.mul_one, Nat.add_zero];have : xs[j]? = some (el xs j) := by simp [el, hj]
 rw [this, hs]
 rfl
theorem HandsT.fr {g : Nat} {W : World} {xs : List Value} {ls : List (List (Int × Int × Int))} (h : HandsT g W xs ls) : FrRT g W.heap.size W (some ⟨g, 0, none⟩) ls.length (xs.map hdr) ls := by
 refine ⟨.inr ⟨g, rfl, h.size, ?_⟩, by simp [h.len], fun j hj => ?_, fun i j hij hj => ?_⟩
 ·rw [List.length_map, h.len, h.flat]; exact h.head
 ·obtain ⟨o, c, hs, _, hF⟩ := h.slice hj;rw [el_map hdr (by rw [h.len]; exact hj), hs];exact ⟨rfl, hF.wide (by omega) (Nat.le_refl _)⟩
 ·obtain ⟨o, c, hs, _, hF⟩ := h.slice (j := i) (by omega);obtain ⟨o', c', hs', _, hF'⟩ := h.slice hj;have hoff := h.off i j hij hj;rw [el_map hdr (by rw [h.len]; omega), el_map hdr (by rw [h.len]; exact hj), hs, hs'];rw [hs, hs'] at hoff
  rcases hF with e | ⟨b, rfl, _⟩
  ·rw [e]; exact .inl rfl
  ·refine .inr (.inr fun e => ?_);dsimp only [hdr] at e;subst e;exact hoff b rfl rfl
end
section
open Go.RowKit

/-- Rows of tokens, wherever their heads lie. -/
def InTT (n : Nat) (W : World) (ao : Option Addr) (ls : List (List (Int × Int × Int))) : Prop := ∃ hs, InRT n W ao hs ls
/-- Rows of tokens in memory of their own. -/
def FrTT (lo hi : Nat) (W : World) (ao : Option Addr) (c : Nat) (ls : List (List (Int × Int × Int))) : Prop := ∃ hs, FrRT lo hi W ao c hs ls
section
variable {lo hi n : Nat} {W W' : World} {ao : Option Addr} {c : Nat} {ls : List (List (Int × Int × Int))}
theorem InTT.later (h : InTT W.heap.size W ao ls) (hb : Below W.heap.size W W') : InTT W'.heap.size W' ao ls := h.imp fun _ h => h.later hb
theorem FrTT.in (h : FrTT lo hi W ao c ls) : InTT W.heap.size W ao ls := h.imp fun _ h => h.in
theorem FrTT.later (h : FrTT lo hi W ao c ls) (hb : Below W.heap.size W W') : FrTT lo hi W' ao c ls := h.imp fun _ h => h.later hb
end
/-- What lies behind a Pipe. -/
def InPipe (n : Nat) (W : World) (bxo : Option Addr) (bx : List (List (Int × Int × Int))) (emo : Option Addr) (em : List (Int × Int × Int)) (fao : Option Addr) (fa : List (Int × Int × Int × Int)) (fuo : Option Addr) (fu : List (Int)) : Prop := InTT n W bxo bx ∧ kOu.In n W emo em ∧ kLo.In n W fao fa ∧ kI.In n W fuo fu
/-- What lies behind a Pipe, in memory of its own. -/
def FrPipe (lo hi : Nat) (W : World) (bxo : Option Addr) (bxc : Nat) (bx : List (List (Int × Int × Int))) (emo : Option Addr) (emc : Nat) (em : List (Int × Int × Int)) (fao : Option Addr) (fac : Nat) (fa : List (Int × Int × Int × Int)) (fuo : Option Addr) (fuc : Nat) (fu : List (Int)) : Prop := FrTT lo hi W bxo bxc bx ∧ kOu.Fresh lo hi W emo emc em ∧ kLo.Fresh lo hi W fao fac fa ∧ kI.Fresh lo hi W fuo fuc fu
theorem InPipe.later {W W' : World} {bxo : Option Addr} {bx : List (List (Int × Int × Int))} {emo : Option Addr} {em : List (Int × Int × Int)} {fao : Option Addr} {fa : List (Int × Int × Int × Int)} {fuo : Option Addr} {fu : List (Int)} (h : InPipe W.heap.size W bxo bx emo em fao fa fuo fu) (hb : Below W.heap.size W W') : InPipe W'.heap.size W' bxo bx emo em fao fa fuo fu := ⟨h.1.later hb, h.2.1.later hb, h.2.2.1.later hb, h.2.2.2.later hb⟩
theorem FrPipe.in {lo hi : Nat} {W : World} {bxo : Option Addr} {bxc : Nat} {bx : List (List (Int × Int × Int))} {emo : Option Addr} {emc : Nat} {em : List (Int × Int × Int)} {fao : Option Addr} {fac : Nat} {fa : List (Int × Int × Int × Int)} {fuo : Option Addr} {fuc : Nat} {fu : List (Int)} (h : FrPipe lo hi W bxo bxc bx emo emc em fao fac fa fuo fuc fu) : InPipe W.heap.size W bxo bx emo em fao fa fuo fu := ⟨h.1.in, h.2.1.in, h.2.2.1.in, h.2.2.2.in⟩
theorem FrPipe.later {lo hi : Nat} {W W' : World} {bxo : Option Addr} {bxc : Nat} {bx : List (List (Int × Int × Int))} {emo : Option Addr} {emc : Nat} {em : List (Int × Int × Int)} {fao : Option Addr} {fac : Nat} {fa : List (Int × Int × Int × Int)} {fuo : Option Addr} {fuc : Nat} {fu : List (Int)} (h : FrPipe lo hi W bxo bxc bx emo emc em fao fac fa fuo fuc fu) (hb : Below W.heap.size W W') : FrPipe lo hi W' bxo bxc bx emo emc em fao fac fa fuo fuc fu := ⟨h.1.later hb, h.2.1.later hb, h.2.2.1.later hb, h.2.2.2.later hb⟩
end
section
open Go.RowKit

/-- What a pipe holds. -/
structure PP where
 ti : Int
 it : Int
 cl : Bool
 bx : List (List (Int × Int × Int))
 em : List (Int × Int × Int)
 fa : List (Int × Int × Int × Int)
 fu : List Int
/-- A flow under way: the object at p, its boxes' heads at bb, its rows. -/
structure Flow (lo : Nat) (W : World) (p bb : Nat) (gv sv : Value) (xs : List Value) (ev fv uv : Value) (s : PP) : Prop where
 box : Bx W p [gv, sv, .int .i64 s.ti, .int .i64 s.it, .bool s.cl, .slice (some ⟨bb, 0, none⟩) s.bx.length s.bx.length, ev, fv, uv, .int .i64 (totT s.bx : Int)]
 hnd : HandsT bb W xs s.bx
 emo : kOu.Own lo W ev s.em
 fao : kLo.Own lo W fv s.fa
 fuo : kI.Own lo W uv s.fu
 lop : lo ≤ p
 lob : lo ≤ bb
 pbb : p ≠ bb
 px : ∀ j, j < s.bx.length → (el xs j).ownBlock ≠ some p
 pe : ev.ownBlock ≠ some p
 pf : fv.ownBlock ≠ some p
 pu : uv.ownBlock ≠ some p
/-- The blocks of a flow. -/
def FO (p bb : Nat) (xs : List Value) (ev fv uv : Value) (b : Nat) : Prop := b = p ∨ b = bb ∨ (∃ j, j < xs.length ∧ (el xs j).ownBlock = some b) ∨ ev.ownBlock = some b ∨ fv.ownBlock = some b ∨ uv.ownBlock = some b
/-- A flow under way in the blocks O. -/
def Fl (lo : Nat) (W : World) (p : Nat) (gv sv : Value) (s : PP) (O : Nat → Prop) : Prop := ∃ bb xs ev fv uv, Flow lo W p bb gv sv xs ev fv uv s ∧ ∀ b, FO p bb xs ev fv uv b → O b
/-- One step: the flow holds s' now, in its blocks and new ones; nothing else turned. -/
def FStep (lo p : Nat) (gv sv : Value) (O : Nat → Prop) (W W' : World) (s' : PP) : Prop :=
 ∃ O', Fl lo W' p gv sv s' O' ∧ (∀ b, O' b → (O b ∨ W.heap.size ≤ b)) ∧ Below lo W W' ∧ ∀ b, b < W.heap.size → ¬ O b → W'.heap[b]? = W.heap[b]?
theorem Flow.later {lo : Nat} {W W' : World} {p bb : Nat} {gv sv : Value} {xs : List Value} {ev fv uv : Value} {s : PP} (h : Flow lo W p bb gv sv xs ev fv uv s) (hb : Below W.heap.size W W') : Flow lo W' p bb gv sv xs ev fv uv s :=
 ⟨h.box.later hb, h.hnd.later hb, h.emo.below hb, h.fao.below hb, h.fuo.below hb, h.lop, h.lob, h.pbb, h.px, h.pe, h.pf, h.pu⟩
theorem FStep.later {lo p : Nat} {gv sv : Value} {O : Nat → Prop} {W W1 W2 : World} {s : PP} (h : FStep lo p gv sv O W W1 s) (hb : Below W1.heap.size W1 W2) (hlo : lo ≤ W.heap.size) : FStep lo p gv sv O W W2 s := by
 obtain ⟨O1, ⟨bb, xs, ev, fv, uv, f, ho⟩, s1, b1, k1⟩ := h;have hs := b1.size;exact ⟨O1, ⟨bb, xs, ev, fv, uv, f.later hb, ho⟩, s1, b1.trans (hb.mono (by omega)), fun b h1 h2 => (hb.block b (by omega)).trans (k1 b h1 h2)⟩
/-- A cell of the flow is read. -/
theorem Flow.head {lo : Nat} {W : World} {p bb : Nat} {gv sv : Value} {xs : List Value} {ev fv uv : Value} {s : PP} (h : Flow lo W p bb gv sv xs ev fv uv s) {k : Nat} (hk : k < s.bx.length) : W.cell? ⟨bb, k, none⟩ = some (el xs k) ∧ W.frozen? ⟨bb, k, none⟩ = false := by
 have hx : k < xs.length := by rw [h.hnd.len]; exact hk
 refine ⟨(h.hnd.head.cellAt k (by omega)).trans ?_, h.hnd.head.frozenAt k⟩
 simp [el, hx]
/-- The blocks of a flow are kept apart: what stands where one row alone turned. -/
theorem Flow.bbx {lo : Nat} {W : World} {p bb : Nat} {gv sv : Value} {xs : List Value} {ev fv uv : Value} {s : PP} (h : Flow lo W p bb gv sv xs ev fv uv s) {k : Nat} (hk : k < s.bx.length) : (el xs k).ownBlock ≠ some bb := fun e => by
 have := (own_block_lt (h.hnd.row k hk) e).1; omega
theorem own_ne_head {α : Type} {K : Kind α} {lo g n lo2 : Nat} {T : TypeId} {W : World} {v : Value} {xs : List α} {cs : List Value} (h : K.Own lo W v xs) (hr : W.ownsRow lo2 T 1 (.slice (some ⟨g, 0, none⟩) n n) n cs) (hne : K.ty ≠ T) : v.ownBlock ≠ some g := fun hb => by
 rcases h.2 with ⟨e, _⟩ | ⟨g1, cap, cur, e, _, hh, _⟩
 ·subst e; simp [Value.ownBlock] at hb
 ·rcases hr.2 with ⟨e2, _⟩ | ⟨g2, cap2, cur2, e2, _, hh2, _⟩
  ·simp at e2
  ·subst e
   simp [Value.ownBlock] at hb
   simp at e2
   rw [hb] at hh;rw [← e2.1, hh] at hh2
   simp at hh2
   exact hne hh2.2
/-- The other rows of a flow lie apart from the object, the heads and the tokens. -/
theorem Flow.apart {lo : Nat} {W : World} {p bb : Nat} {gv sv : Value} {xs : List Value} {ev fv uv : Value} {s : PP} (h : Flow lo W p bb gv sv xs ev fv uv s) {b : Nat} (hb : ev.ownBlock = some b ∨ fv.ownBlock = some b ∨ uv.ownBlock = some b) :
  b < W.heap.size ∧ b ≠ p ∧ b ≠ bb ∧ ∀ j, j < s.bx.length → (el xs j).ownBlock ≠ some b := by
 rcases hb with hb | hb | hb
 ·exact ⟨(own_block_lt h.emo hb).2, fun e => h.pe (by rw [← e]; exact hb), fun e => own_ne_head h.emo h.hnd.head (by decide) (by rw [← e]; exact hb), fun j hj => own_ty h.emo (h.hnd.row j hj) (by decide) hb⟩
 ·exact ⟨(own_block_lt h.fao hb).2, fun e => h.pf (by rw [← e]; exact hb), fun e => own_ne_head h.fao h.hnd.head (by decide) (by rw [← e]; exact hb), fun j hj => own_ty h.fao (h.hnd.row j hj) (by decide) hb⟩
 ·exact ⟨(own_block_lt h.fuo hb).2, fun e => h.pu (by rw [← e]; exact hb), fun e => own_ne_head h.fuo h.hnd.head (by decide) (by rw [← e]; exact hb), fun j hj => own_ty h.fuo (h.hnd.row j hj) (by decide) hb⟩
/-- Object and boxes put anew, the other rows as they were. -/
theorem Flow.turn {lo : Nat} {W W' : World} {p bb : Nat} {gv sv : Value} {xs xs' : List Value} {ev fv uv : Value} {s : PP} {bx' : List (List (Int × Int × Int))} {ti' it' : Int} {cl' : Bool} (h : Flow lo W p bb gv sv xs ev fv uv s)
  (hbox : Bx W' p [gv, sv, .int .i64 ti', .int .i64 it', .bool cl', .slice (some ⟨bb, 0, none⟩) bx'.length bx'.length, ev, fv, uv, .int .i64 (totT bx' : Int)]) (hh : HandsT bb W' xs' bx')
  (hk : ∀ b, (ev.ownBlock = some b ∨ fv.ownBlock = some b ∨ uv.ownBlock = some b) → W'.heap[b]? = W.heap[b]?) (hp : ∀ j, j < bx'.length → (el xs' j).ownBlock ≠ some p) :
  Flow lo W' p bb gv sv xs' ev fv uv { ti := ti', it := it', cl := cl', bx := bx', em := s.em, fa := s.fa, fu := s.fu } :=
 ⟨hbox, hh, own_keep h.emo fun b hb => hk b (.inl hb), own_keep h.fao fun b hb => hk b (.inr (.inl hb)), own_keep h.fuo fun b hb => hk b (.inr (.inr hb)), h.lop, h.lob, h.pbb, hp, h.pe, h.pf, h.pu⟩
theorem HandsT.keep {g : Nat} {W W' : World} {xs : List Value} {ls : List (List (Int × Int × Int))} (h : HandsT g W xs ls) (hg : W'.heap[g]? = W.heap[g]?) (hk : ∀ j, j < ls.length → ∀ b, (el xs j).ownBlock = some b → W'.heap[b]? = W.heap[b]?) : HandsT g W' xs ls :=
 ⟨h.len, owns_block h.head hg, fun j hj => own_keep (h.row j hj) (hk j hj), h.off⟩
theorem Flow.setFar {lo : Nat} {W : World} {p bb : Nat} {gv sv : Value} {xs : List Value} {ev fv uv : Value} {s : PP} (h : Flow lo W p bb gv sv xs ev fv uv s) {a : Addr} (ha : ¬ FO p bb xs ev fv uv a.block) (u : Value) : Flow lo (W.setCell a u) p bb gv sv xs ev fv uv s := by
 have hk : ∀ b, FO p bb xs ev fv uv b → (W.setCell a u).heap[b]? = W.heap[b]? := fun b hb => Below.heap_setCell _ _ _ _ (fun e => ha (by rw [← e]; exact hb))
 exact ⟨h.box.other (fun e => ha (.inl e)) u, h.hnd.keep (hk bb (.inr (.inl rfl))) (fun j hj b hb => hk b (.inr (.inr (.inl ⟨j, by rw [h.hnd.len]; exact hj, hb⟩)))), own_keep h.emo fun b hb => hk b (.inr (.inr (.inr (.inl hb)))), own_keep h.fao fun b hb => hk b (.inr (.inr (.inr (.inr (.inl hb))))), own_keep h.fuo fun b hb => hk b (.inr (.inr (.inr (.inr (.inr hb))))), h.lop, h.lob, h.pbb, h.px, h.pe, h.pf, h.pu⟩
theorem own_low {α : Type} {K : Kind α} {lo lo' : Nat} {W : World} {v : Value} {xs : List α} (h : K.Own lo W v xs) (hl : lo' ≤ lo) : K.Own lo' W v xs := by
 obtain ⟨h1, h2⟩ := h;refine ⟨h1, ?_⟩
 rcases h2 with h2 | ⟨g, cap, cur, e, hg, r⟩
 ·exact .inl h2
 ·exact .inr ⟨g, cap, cur, e, Nat.le_trans hl hg, r⟩
theorem totT_cons (x : List (Int × Int × Int)) (r : List (List (Int × Int × Int))) : totT (x :: r) = x.length + totT r := by simp [totT]
theorem totT_set : ∀ {ls : List (List (Int × Int × Int))} {k : Nat} (x : List (Int × Int × Int)), k < ls.length → totT (ls.set k x) + (el ls k).length = totT ls + x.length
 | [], _, _, h => by simp at h
 | y :: r, 0, x, _ => by rw [List.set_cons_zero, totT_cons, totT_cons]; simp only [el, List.getElem?_cons_zero, Option.getD_some]; omega
 | y :: r, k + 1, x, h => by
  have ih := totT_set (ls := r) (k := k) x (by simpa using h);have e : el (y :: r) (k + 1) = el r k := by simp [el]
  rw [List.set_cons_succ, totT_cons, totT_cons, e]; omega
end
section
open Go.RowKit

theorem load_any (p off : Nat) (x : Int) (w : World) (hc : w.cell? ⟨p, off, none⟩ = some (.int .i64 x)) :
  Calls Tryz.prog 26 #[.pointer (some ⟨p, off, none⟩)] w fun e w' => e = .returned (.int .i64 x) ∧ w' = w := by
 have hl := run_call_load (P := Tryz.prog) Tryz.func54 (by kernel_rfl) (by kernel_rfl) (by kernel_rfl) .i64 (by kernel_rfl) hc;go_enter Tryz.func26, Tryz.ntmps26;go_wp2;go_ret;exact ⟨rfl, rfl⟩
theorem add_any (p off : Nat) (x y z : Int) (w : World) (hc : w.cell? ⟨p, off, none⟩ = some (.int .i64 x)) (hf : w.frozen? ⟨p, off, none⟩ = false) (hz : z = x + y) (h0 : -1000000000 ≤ z) (h1 : z ≤ 1000000000) :
  Calls Tryz.prog 168 #[.pointer (some ⟨p, off, none⟩), .int .i64 y] w fun e w' => e = .returned (.int .i64 z) ∧ w' = w.setCell ⟨p, off, none⟩ (.int .i64 z) := by
 have hw : IntKind.i64.wrap (x + y) = z := by rw [IntKind.wrap_i64]; omega
 have hl := run_call_add (P := Tryz.prog) Tryz.func177 (by kernel_rfl) (by kernel_rfl) (by kernel_rfl) .i64 (by kernel_rfl) (y := y) (s := z) hc hf (by simp [go_sem, hw]);clear hz hw;go_enter Tryz.func168, Tryz.ntmps168;go_wp2;go_ret;exact ⟨rfl, rfl⟩
end
section
open Go Go.RowKit

section
variable {P : Program} {ops : Array Oper} {Q : Exit → Act → World → Prop} {md : Region.Mode} {S : World → Prop} {zs : Nat → Bool}
/-- In whatever order: behind each operation S holds, but behind the last ones. -/
def Walks (P : Program) (md : Region.Mode) (ops : Array Oper) (Q : Exit → Act → World → Prop) (S : World → Prop) (zs : Nat → Bool) : Nat → Array Bool → Act → World → Prop
 | 0, ls, a, w => Region.ready md ops ls = [] ∧ Q .normal a w
 | n + 1, ls, a, w => (Region.ready md ops ls = [] → Q .normal a w) ∧
   ∀ i, i ∈ Region.ready md ops ls → wpOp P ops Q i (fun b y => (zs i = false → S y) ∧ Walks P md ops Q S zs n (ls.setIfInBounds i true) b y) a w
theorem Walks.any : ∀ {n : Nat} {ls : Array Bool} {a : Act} {w : World}, Walks P md ops Q S zs n ls a w → wpAny P md ops Q n ls a w
 | 0, _, _, _, h => h
 | _ + 1, _, _, _, h => ⟨h.1, fun i hi => wpOp_mono (fun _ _ hb => hb.2.any) (h.2 i hi)⟩
/-- Whoever is last waits for i. -/
def lastWait (md : Region.Mode) (ops : Array Oper) (zs : List Nat) (i : Nat) : Bool := zs.all fun z => match ops[z]? with | some o => o.after.any fun e => Region.binds md e && e.on == i | none => true
theorem lastWait_not {zl : List Nat} {i j : Nat} {ls : Array Bool} (h : lastWait md ops zl i = true) (hi : i ∈ Region.ready md ops ls) (hj : j ∈ Region.ready md ops ls) : zl.contains j = false := by
 cases hc : zl.contains j with
 | false => rfl
 | true =>
  exfalso
  obtain ⟨_, o, ho, hall⟩ := mem_ready.1 hj;have h1 := List.all_eq_true.1 h j (by simpa using hc);rw [ho] at h1;obtain ⟨k, hk, he⟩ := Array.any_eq_true.1 h1;simp only [Bool.and_eq_true, beq_iff_eq] at he;have h2 := hall _ (Array.getElem_mem hk) he.1;have h0 := (mem_ready.1 hi).1;rw [he.2] at h2
  rcases Nat.lt_or_ge i ls.size with hl | hl
  ·simp [hl] at h0 h2; rw [h0] at h2; cases h2
  ·simp [Array.getElem?_eq_none hl] at h2
/-- An operation that yields the same in every world that meets S may come first. -/
theorem Walks.take {zl : List Nat} {i : Nat} {oi : Oper} {v : Value} (ho : ops[i]? = some oi) (hs : Region.noSelect ops = true) (hl : lastWait md ops zl i = true) (hQ : ∀ c a w, Q (.panic c) (a.put oi.dst v) w → Q (.panic c) a w) :
  ∀ (n : Nat) (ls : Array Bool) (a : Act) (w : World), Region.free md ops ls i = true → (Region.ready md ops ls).contains i = true → YieldsIf P ops S oi v a → S w →
   Walks P md ops Q S (zl.contains ·) n (ls.setIfInBounds i true) (a.put oi.dst v) w → Walks P md ops Q S (zl.contains ·) (n + 1) ls a w := by
 suffices H : ∀ (n : Nat) (ls : Array Bool) (a : Act) (w : World), (∀ j o, ops[j]? = some o → j ≠ i → ls.getD j true = false → (∀ e ∈ o.after, Region.binds md e = true → e.on ≠ i) → oi.apart ops o = true) → i ∈ Region.ready md ops ls → YieldsIf P ops S oi v a → S w →
   Walks P md ops Q S (zl.contains ·) n (ls.setIfInBounds i true) (a.put oi.dst v) w → Walks P md ops Q S (zl.contains ·) (n + 1) ls a w from
  fun n ls a w hf hr => H n ls a w (Region.free_spec ho hf) (by simpa using hr)
 have hsel := Region.noSelect_spec hs;intro n
 induction n with
 | zero =>
  intro ls a w _ hr hy hS h;refine ⟨fun e => (by rw [e] at hr; cases hr), fun j hj => ?_⟩
  rcases Decidable.em (j = i) with rfl | hne
  ·exact hy.wpOp ho hS ⟨fun _ => hS, h⟩
  ·have hm := ready_mono hj hne;rw [h.1] at hm; cases hm
 | succ n ih =>
  intro ls a w hf hr hy hS h;refine ⟨fun e => (by rw [e] at hr; cases hr), fun j hj => ?_⟩
  rcases Decidable.em (j = i) with rfl | hne
  ·exact hy.wpOp ho hS ⟨fun _ => hS, h⟩
  have hz := lastWait_not hl hr hj;obtain ⟨hun, oj, hoj, hall⟩ := mem_ready.1 hj;have hno : ∀ e ∈ oj.after, Region.binds md e = true → e.on ≠ i := fun e he hb hon => by
   have h2 := hall e he hb;have h0 := (mem_ready.1 hr).1;rw [hon] at h2
   rcases Nat.lt_or_ge i ls.size with hl | hl
   ·simp [hl] at h0 h2; rw [h0] at h2; cases h2
   ·simp [Array.getElem?_eq_none hl] at h2
  refine wpOp_mono (fun b y hb => ?_) (wpOp_putIf hoj (hf j oj hoj hne hun hno) (fun c d => hsel i oi c d ho) (fun c d => hsel j oj c d hoj) hQ hy (h.2 j (ready_mono hj hne)));obtain ⟨hy2, hS2, h2⟩ := hb;refine ⟨fun _ => hS2 hz, ih _ b y (fun k ok hk hki hku hkn => hf k ok hk hki ?_ hkn) (ready_mono hr (Ne.symm hne)) hy2 (hS2 hz) (by rw [Array.setIfInBounds_comm _ _ hne]; exact h2)⟩
  rcases Decidable.em (j = k) with rfl | hjk
  ·exact hun
  ·rw [getD_set_ne true hjk] at hku; exact hku
theorem Walks.one {n i : Nat} {ls : Array Bool} {a : Act} {w : World} {o : Oper} (hr : Region.ready md ops ls = [i]) (ho : ops[i]? = some o)
  (h : ∀ K : Act → World → Prop, Shut (∀ b y, (zs i = false → S y) → ((zs i = false → S y) → Walks P md ops Q S zs n (ls.setIfInBounds i true) b y) → K b y) → if Region.wanted o (yielded ops a.tmps) = true then Oper.wp P o a w K Q else K (a.put o.dst undef) w) : Walks P md ops Q S zs (n + 1) ls a w :=
 ⟨fun e => (by rw [hr] at e; cases e), fun j hj => by
  rw [hr] at hj;obtain rfl := List.mem_singleton.1 hj;exact wpOp_step ho fun K hK => h K fun b y h1 h2 => hK b y ⟨h1, h2 h1⟩⟩
theorem Walks.tk {zl : List Nat} (i : Nat) {oi : Oper} {v : Value} {n : Nat} {ls : Array Bool} {a : Act} {w : World} (hS : S w) (h : Walks P md ops Q S (zl.contains ·) n (ls.setIfInBounds i true) (a.put oi.dst v) w) (ho : ops[i]? = some oi := by exact rfl) (hs : Region.noSelect ops = true := by kernel_rfl) (hl : lastWait md ops zl i = true := by kernel_rfl) (hQ : ∀ c a w, Q (.panic c) (a.put oi.dst v) w → Q (.panic c) a w := by exact fun _ _ _ h => h) (hf : Region.free md ops ls i = true := by kernel_rfl) (hr : (Region.ready md ops ls).contains i = true := by kernel_rfl) (hy : YieldsIf P ops S oi v a := by exact .inl ⟨by rfl, by intro w' hSw; (try dsimp only at hSw); go_simp <;> with_reducible rfl⟩) : Walks P md ops Q S (zl.contains ·) (n + 1) ls a w := Walks.take ho hs hl hQ n ls a w hf hr hy hS h
theorem Walks.on {n : Nat} (i : Nat) {ls : Array Bool} {a : Act} {w : World} {o : Oper} (h : ∀ K : Act → World → Prop, Shut (∀ b y, (zs i = false → S y) → ((zs i = false → S y) → Walks P md ops Q S zs n (ls.setIfInBounds i true) b y) → K b y) → if Region.wanted o (yielded ops a.tmps) = true then Oper.wp P o a w K Q else K (a.put o.dst undef) w) (hr : Region.ready md ops ls = [i] := by kernel_rfl) (ho : ops[i]? = some o := by exact rfl) : Walks P md ops Q S zs (n + 1) ls a w := Walks.one hr ho h

theorem Walks.done {ls : Array Bool} {a : Act} {w : World} (hr : Region.ready md ops ls = []) (h : Q .normal a w) : ∀ n, Walks P md ops Q S zs n ls a w
 | 0 => ⟨hr, h⟩
 | _ + 1 => ⟨fun _ => h, fun i hi => by rw [hr] at hi; cases hi⟩
/-- What is held may grow on the way. -/
theorem Walks.weaken {S' : World → Prop} (hS : ∀ y, S' y → S y) : ∀ {n : Nat} {ls : Array Bool} {a : Act} {w : World}, Walks P md ops Q S' zs n ls a w → Walks P md ops Q S zs n ls a w
 | 0, _, _, _, h => h
 | _ + 1, _, _, _, h => ⟨h.1, fun i hi => wpOp_mono (fun _ _ hb => ⟨fun hz => hS _ (hb.1 hz), hb.2.weaken hS⟩) (h.2 i hi)⟩
theorem wp_walks {zl : List Nat} {id : Nat} {a : Act} {w : World} (hm : P.follows .mixedOrders = true) (hS : S w.drew)
  (h : S w.drew → Walks P .any ops Q S (zl.contains ·) ops.size (Array.replicate ops.size false) a w.drew) : (Code.region id ops true).wp P Q a w := wp_region_any hm (h hS).any
end
end
end Go.Proofs.YtllmpinmbajpgaaGreatDoor
