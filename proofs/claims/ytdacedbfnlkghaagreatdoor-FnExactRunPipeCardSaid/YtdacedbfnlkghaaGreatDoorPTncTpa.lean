
/- The text of a node: the program's. No conditions but those written. The text of a node: the specification's. No conditions but those written. Texts cut at a mark, and numbers read: plainly. No conditions but those written. -/
import Derived.Test.YtdacedbfnlkghaaGreatDoorPXkTnb
import Derived.Test.YtdacedbfnlkghaaGreatDoorPSiSk
import Derived.Test.YtdacedbfnlkghaaGreatDoorPZcZh
import Derived.Lib.AtoiAll
import Derived.Laws.RangeAny
namespace Go.Proofs.YtdacedbfnlkghaaGreatDoor
section
open Go.RowKit

/-- The kinds' words. -/
def wordB (k : Int) : ByteArray := if k = 1 then ⟨#[109, 97, 112]⟩ else if k = 2 then ⟨#[102, 105, 108, 116, 101, 114]⟩ else if k = 3 then ⟨#[101, 120, 112, 97, 110, 100]⟩ else if k = 4 then ⟨#[112, 111, 105, 115, 111, 110]⟩ else ⟨#[]⟩
theorem wordB_size (k : Int) : (wordB k).size ≤ 6 := by
 unfold wordB
 split
 ·decide
 ·split
  ·decide
  ·split
   ·decide
   ·split <;> decide
/-- The table of the kinds' words lies as it was laid. -/
structure Wds (w : World) : Prop where
 lt : 0 < w.heap.size
 cell : ∀ j : Nat, j < 5 → w.cell? ⟨0, j, none⟩ = some (.string (wordB (j : Int)))
theorem Wds.below {n : Nat} {w w' : World} (h : Wds w) (hb : Below n w w') (hn : 0 < n) : Wds w' :=
 ⟨Nat.lt_of_lt_of_le h.lt hb.size, fun j hj => (hb.cell (p := ⟨0, j, none⟩) hn).trans (h.cell j hj)⟩
theorem Wds.later {w w' : World} (h : Wds w) (hb : Below w.heap.size w w') : Wds w' := h.below hb h.lt
/-- A stage's text. -/
def stageT (kd sa sb : Int) : ByteArray := (wordB kd ++ ⟨#[58]⟩) ++ numsT ⟨#[58]⟩ [sa, sb]
def In64 (x : Int) : Prop := -9223372036854775808 ≤ x ∧ x ≤ 9223372036854775807
theorem joinB_size (xs : List ByteArray) (sep : ByteArray) (c : Nat) (h : ∀ x ∈ xs, x.size ≤ c) : (joinB xs sep).size ≤ (xs.length + 1) * (sep.size + c) := by
 have := join_len sep.data.toList c (xs.map (·.data.toList)) fun x hx => by
  obtain ⟨z, hz, rfl⟩ := List.mem_map.1 hx;have := h z hz;rw [Array.length_toList]; exact this
 rw [List.length_map, Array.length_toList] at this
 show (Lib.join (xs.map (·.data.toList)) sep.data.toList).toArray.size ≤ _
 rw [List.size_toArray]; exact this
/-- A node's text. -/
def nodeB (nm : ByteArray) (kd sa sb cp : Int) (nx : List Int) : ByteArray := joinB [⟨#[110, 111, 100, 101]⟩, nm, stageT kd sa sb, tx (Lib.itoa cp), nextT nx] ⟨#[32]⟩
structure HasT (nm : ByteArray) (kd sa sb cp : Int) (nx : List Int) : Prop where
 nam : nm.size ≤ 12
 kin : ∃ j : Nat, 1 ≤ j ∧ j < 5 ∧ kd = (j : Int)
 i1 : In64 sa
 i2 : In64 sb
 i3 : 0 ≤ cp ∧ cp ≤ 9999999
 len : nx.length ≤ 20
 nxs : ∀ x ∈ nx, 0 ≤ x ∧ x ≤ 9999999
theorem farB_no {x : Int} (h : farB x = false) : 0 ≤ x ∧ x ≤ 9999999 := by simp [farB] at h; omega
theorem hasT_has {nm : ByteArray} {kd sa sb cp : Int} {nx : List Int} (h : hasT nm kd sa sb cp nx = true) : HasT nm kd sa sb cp nx := by
 simp only [hasT, Bool.and_eq_true, Bool.not_eq_true', decide_eq_true_eq] at h;obtain ⟨h1, h2, h3, h4, h5⟩ := h;refine ⟨?_, ?_, ?_, ?_, farB_no h3, h4, fun x hx => ?_⟩
 ·rcases Nat.lt_or_ge 12 nm.size with h | h
  ·rw [nameB_size (.inr h)] at h1; cases h1
  ·exact h
 ·rcases good_kind h2 with rfl | rfl | rfl | rfl
  ·exact ⟨1, by omega, by omega, rfl⟩
  ·exact ⟨2, by omega, by omega, rfl⟩
  ·exact ⟨3, by omega, by omega, rfl⟩
  ·exact ⟨4, by omega, by omega, rfl⟩
 ·rcases good_kind h2 with rfl | rfl | rfl | rfl
  ·have := good1 h2; exact ⟨by omega, by omega⟩
  ·have := good2 h2; exact ⟨by omega, by omega⟩
  ·have := good3 h2; exact ⟨by omega, by omega⟩
  ·have := good4 h2; exact ⟨by omega, by omega⟩
 ·rcases good_kind h2 with rfl | rfl | rfl | rfl
  ·have := good1 h2; exact ⟨by omega, by omega⟩
  ·have := good2 h2; exact ⟨by omega, by omega⟩
  ·have := good3 h2; exact ⟨by omega, by omega⟩
  ·have := good4 h2; exact ⟨by omega, by omega⟩
 ·refine farB_no ?_;rw [List.any_eq_false] at h5
  simpa using h5 x hx
theorem HasT.i64 {nm : ByteArray} {kd sa sb cp : Int} {nx : List Int} (h : HasT nm kd sa sb cp nx) : Ints64 nx := fun x hx => by have := h.nxs x hx; omega
theorem nextT_size {nx : List Int} (h : nx.length ≤ 20) (h6 : Ints64 nx) : (nextT nx).size ≤ 462 := by
 unfold nextT
 split
 ·decide
 ·have := numsT_size h6 ⟨#[44]⟩;have e : (⟨#[44]⟩ : ByteArray).size = 1 := rfl;rw [e] at this;have h2 : (nx.length + 1) * 22 ≤ 21 * 22 := Nat.mul_le_mul_right _ (by omega)
  omega
end
section
open Go.RowKit

theorem ba_ext {a b : ByteArray} (h : a.data.toList = b.data.toList) : a = b := by
 apply ByteArray.ext
 exact Array.toList_inj.1 h
theorem ba_app (a b : ByteArray) : (a ++ b).data.toList = a.data.toList ++ b.data.toList := by simp [ByteArray.data_append]
theorem joinB_data (xs : List ByteArray) (sep : ByteArray) : (joinB xs sep).data.toList = Lib.join (xs.map (·.data.toList)) sep.data.toList := by simp [joinB]
theorem joinB_one (x sep : ByteArray) : joinB [x] sep = x := by
 apply ba_ext
 rw [joinB_data, List.map_singleton, Lib.join_one]
theorem joinTail_app (sep : List UInt8) (r s : List (List UInt8)) : Lib.joinTail sep (r ++ s) = Lib.joinTail sep r ++ Lib.joinTail sep s := by simp [Lib.joinTail]
theorem joinB_snoc {xs : List ByteArray} (h : 0 < xs.length) (y sep : ByteArray) : joinB (xs ++ [y]) sep = joinB xs sep ++ (sep ++ y) := by
 apply ba_ext
 cases xs with
 | nil => simp at h
 | cons x r =>
  rw [ba_app, ba_app, joinB_data, joinB_data, List.cons_append, List.map_cons, List.map_cons, Lib.join_cons, Lib.join_cons, List.map_append, joinTail_app, List.append_assoc]
  simp [Lib.joinTail]
theorem numsT_one {l : List Int} (h : 0 < l.length) (sep : ByteArray) : numsT sep (l.take 1) = tx (Lib.itoa (el l 0)) := by
 rw [numsT, show (1 : Nat) = 0 + 1 from rfl, numBs_succ h];exact joinB_one _ _
theorem numsT_succ {l : List Int} {k : Nat} (h0 : 0 < k) (h : k < l.length) (sep : ByteArray) : numsT sep (l.take (k + 1)) = numsT sep (l.take k) ++ (sep ++ tx (Lib.itoa (el l k))) := by
 rw [numsT, numBs_succ h, joinB_snoc (by rw [numBs_len, List.length_take]; omega)]; rfl
set_option maxHeartbeats 400000 in
theorem l13Kinds_is (w : World) : Calls Tryz.prog 74 #[] w fun e w' => ∃ q, e = .returned (.slice (some ⟨q, 0, none⟩) 5 5) ∧ (q < w'.heap.size ∧ w.heap.size ≤ q ∧ ∀ j : Nat, j < 5 → w'.cell? ⟨q, j, none⟩ = some (.string (wordB (j : Int)))) ∧ Below w.heap.size w w' := by
 go_enter Tryz.func74, Tryz.ntmps74;go_wp2;go_ret;refine ⟨_, rfl, ?_, below1 _ _⟩;have X := Bx.new (w := w) [.string ⟨#[]⟩, .string ⟨#[109, 97, 112]⟩, .string ⟨#[102, 105, 108, 116, 101, 114]⟩, .string ⟨#[101, 120, 112, 97, 110, 100]⟩, .string ⟨#[112, 111, 105, 115, 111, 110]⟩] 9 rfl;refine ⟨X.size, Nat.le_refl _, fun j hj => ?_⟩
 rcases (show j = 0 ∨ j = 1 ∨ j = 2 ∨ j = 3 ∨ j = 4 from by omega) with rfl | rfl | rfl | rfl | rfl
 ·exact X.c 0 rfl
 ·exact X.c 1 rfl
 ·exact X.c 2 rfl
 ·exact X.c 3 rfl
 ·exact X.c 4 rfl
/-- The text as the specification puts it together. -/
theorem nodeB_sum (nm : ByteArray) (kd sa sb cp : Int) (nx : List Int) :
  nodeB nm kd sa sb cp nx = (((((((((((⟨#[110, 111, 100, 101, 32]⟩ ++ nm) ++ ⟨#[32]⟩) ++ wordB kd) ++ ⟨#[58]⟩) ++ tx (Lib.itoa sa)) ++ ⟨#[58]⟩) ++ tx (Lib.itoa sb)) ++ ⟨#[32]⟩) ++ tx (Lib.itoa cp)) ++ ⟨#[32]⟩) ++ nextT nx) := by
 apply ba_ext
 simp only [nodeB, stageT, numsT, numBs, ba_app, joinB_data, List.map_cons, List.map_nil, Lib.join_cons, Lib.joinTail, List.flatten_cons, List.flatten_nil, List.append_nil, List.append_assoc]
 simp
/-- The text of the first k that a node leads to. -/
def nextK (nx : List Int) (k : Nat) : ByteArray := if k = 0 then ⟨#[45]⟩ else numsT ⟨#[44]⟩ (nx.take k)
theorem nextK_all (nx : List Int) : nextK nx nx.length = nextT nx := by rw [nextK, nextT, List.take_length]
theorem nextK_size {nx : List Int} (h : nx.length ≤ 20) (h6 : Ints64 nx) (k : Nat) (hk : k ≤ nx.length) : (nextK nx k).size ≤ 462 := by
 by_cases h0 : k = 0
 ·rw [nextK, if_pos h0]; decide
 ·have hl : (nx.take k).length = k := by rw [List.length_take]; omega
  have := nextT_size (nx := nx.take k) (by omega) fun x hx => h6 x (List.mem_of_mem_take hx)
  rw [nextT, if_neg (by omega)] at this;rw [nextK, if_neg h0]; exact this
set_option maxRecDepth 10000 in
set_option maxHeartbeats 8000000 in
theorem l13Node_is (nm : ByteArray) (kd sa sb cp : Int) (nxo : Option Addr) (nxc : Nat) (nx : List Int) (w : World) (hH : HasT nm kd sa sb cp nx) (hz : InNode w.heap.size w nxo nx) :
  Calls Tryz.prog 33 #[.agg #[.string nm, .int .i64 kd, .int .i64 sa, .int .i64 sb, .int .i64 cp, .slice nxo nx.length nxc]] w fun e w' => e = .returned (.string (nodeB nm kd sa sb cp nx)) ∧ Below w.heap.size w w' := by
 obtain ⟨j, hj1, hj5, hkd⟩ := hH.kin;subst hkd;have h3 := hH.i3;have hlen := hH.len;have hnm := hH.nam;have HK := hid (fun k (hk : k ≤ nx.length) => nextK_size hH.len hH.i64 k hk);have H64 := hid hH.i64;have hi1 := hH.i1;have hi2 := hH.i2;have hB0 := below1 w (.cells #[.string nm, .int .i64 (j : Int), .int .i64 sa, .int .i64 sb, .int .i64 cp, .slice nxo nx.length nxc] 27);have X0 := hid (Bx.new (w := w) [.string nm, .int .i64 (j : Int), .int .i64 sa, .int .i64 sb, .int .i64 cp, .slice nxo nx.length nxc] 27 rfl);obtain ⟨V, hV⟩ : ∃ V, V = w.alloc (.cells #[.string nm, .int .i64 (j : Int), .int .i64 sa, .int .i64 sb, .int .i64 cp, .slice nxo nx.length nxc] 27) := ⟨_, rfl⟩;have HZ := hid (Kind.In.later hz hB0);rw [← hV] at hB0 X0 HZ;have x5 := X0.out.c 5 rfl;have hxs := X0.out.size;clear hH hz;go_enter Tryz.func33, Tryz.ntmps33;go_wp2;rw [← hV];clear hV
 go_loopw [3, 9] (fun u i wr => ∃ k : Nat, k ≤ nx.length ∧ u = .string (nextK nx k) ∧ i = .int .i64 (k : Int) ∧ Below V.heap.size V wr) (fun _ i _ => nx.length - (intOf i).toNat)
 case atStart => exact ⟨0, Nat.zero_le _, rfl, rfl, Below.refl _ _⟩
 case round =>
  obtain ⟨k, hk, rfl, rfl, hB⟩ := hrel
  by_cases hlt : k < nx.length
  ·obtain ⟨b, off, rfl, hb, hc⟩ := ints_at HZ.out hlt;have d1 := (hB.cell (p := ⟨b, off + k, none⟩) hb).trans (hc k hlt);have h6 := H64.out _ (el_mem hlt);have hit := num_any (el nx k) h6.1 h6.2 wr;have hts : (tx (Lib.itoa (el nx k))).size ≤ 21 := by rw [tx_size]; exact itoa_short _ h6.1 h6.2
   have hks := HK.out k hk
   by_cases h0 : k = 0
   ·have h0' : ((k : Int) == 0) = true := by simp [h0]
    have HN : Hid (nextK nx (k + 1) = tx (Lib.itoa (el nx k))) := by
     rw [Hid, nextK, if_neg (by omega), h0]; exact numsT_one (by omega) _
    generalize tx (Lib.itoa (el nx k)) = t at hit HN hts
    generalize el nx k = x at d1 hit
    have HIT := hid hit;clear hit hc h6 h0;go_wp2_with fail;refine HIT.out.mono ?_;rintro e w1 ⟨rfl, hb1⟩;have hB1 := hB.trans (hb1.mono hB.size);go_wp2;go_roundw
    case rel => exact ⟨k + 1, by omega, by rw [HN.out], by go_num, hB1⟩
    case measure => simp [intOf]; omega
   ·have h0' : ((k : Int) == 0) = false := by simp [h0]
    have HN : Hid (nextK nx (k + 1) = nextK nx k ++ (⟨#[44]⟩ ++ tx (Lib.itoa (el nx k)))) := by
     rw [Hid, nextK, nextK, if_neg (by omega), if_neg h0]; exact numsT_succ (by omega) hlt _
    generalize tx (Lib.itoa (el nx k)) = t at hit HN hts
    generalize el nx k = x at d1 hit
    have HIT := hid hit;clear hit hc h6 h0
    generalize nextK nx k = s at hks HN
    go_wp2_with fail;refine HIT.out.mono ?_;rintro e w1 ⟨rfl, hb1⟩;have hB1 := hB.trans (hb1.mono hB.size);go_wp2;go_roundw
    case rel => exact ⟨k + 1, by omega, by rw [HN.out], by go_num, hB1⟩
    case measure => simp [intOf]; omega
  ·obtain rfl : k = nx.length := by omega
   have hks := HK.out _ hk;have HR := hid (nodeB_sum nm (j : Int) sa sb cp nx);rw [nextK_all] at hks ⊢;have hws := wordB_size (j : Int);have HN1 := hid (fun W => num_any sa hi1.1 hi1.2 W);have HN2 := hid (fun W => num_any sb hi2.1 hi2.2 W);have HN3 := hid (fun W => num_any cp (by omega) (by omega) W);have s1 : (tx (Lib.itoa sa)).size ≤ 21 := by rw [tx_size]; exact itoa_short _ hi1.1 hi1.2
   have s2 : (tx (Lib.itoa sb)).size ≤ 21 := by rw [tx_size]; exact itoa_short _ hi2.1 hi2.2
   have s3 : (tx (Lib.itoa cp)).size ≤ 21 := by rw [tx_size]; exact itoa_short _ (by omega) (by omega)
   generalize nextT nx = t0 at hks HR ⊢
   generalize tx (Lib.itoa sa) = t1 at HN1 s1 HR
   generalize tx (Lib.itoa sb) = t2 at HN2 s2 HR
   generalize tx (Lib.itoa cp) = t3 at HN3 s3 HR
   have X1 := hid (X0.out.later hB);have hB1 := hB0.trans (hB.mono hB0.size);have hi0 : (0 : Int) ≤ (j : Int) := by omega
   have hi5 : (j : Int) < 5 := by omega
   clear x5 hB HZ HK H64 X0 hB0;have HKD := hid l13Kinds_is;have HWE : Hid (∀ (W : World) (q : Nat), (∀ i : Nat, i < 5 → W.cell? ⟨q, i, none⟩ = some (.string (wordB (i : Int)))) → W.cell? ⟨q, j, none⟩ = some (.string (wordB (j : Int)))) := fun W q h => h j hj5
   generalize wordB (j : Int) = wd at hws HR HWE
   have z5 : (⟨#[110, 111, 100, 101, 32]⟩ : ByteArray).size = 5 := rfl;have z32 : (⟨#[32]⟩ : ByteArray).size = 1 := rfl;have z58 : (⟨#[58]⟩ : ByteArray).size = 1 := rfl;have hc0 : ∀ W, (Op.stringOp .add (⟨#[110, 111, 100, 101, 32]⟩ : ByteArray) nm).run Tryz.prog W = .ok (.string ((⟨#[110, 111, 100, 101, 32]⟩ : ByteArray) ++ nm)) W := fun W => run_string_add_sum W _ _ (by first | omega | (repeat rw [ByteArray.size_append]) <;> omega)
   have hc1 : ∀ W, (Op.stringOp .add ((⟨#[110, 111, 100, 101, 32]⟩ : ByteArray) ++ nm) ⟨#[32]⟩).run Tryz.prog W = .ok (.string (((⟨#[110, 111, 100, 101, 32]⟩ : ByteArray) ++ nm) ++ ⟨#[32]⟩)) W := fun W => run_string_add_sum W _ _ (by first | omega | (repeat rw [ByteArray.size_append]) <;> omega)
   have hc2 : ∀ W, (Op.stringOp .add (((⟨#[110, 111, 100, 101, 32]⟩ : ByteArray) ++ nm) ++ ⟨#[32]⟩) wd).run Tryz.prog W = .ok (.string ((((⟨#[110, 111, 100, 101, 32]⟩ : ByteArray) ++ nm) ++ ⟨#[32]⟩) ++ wd)) W := fun W => run_string_add_sum W _ _ (by first | omega | (repeat rw [ByteArray.size_append]) <;> omega)
   have hc3 : ∀ W, (Op.stringOp .add ((((⟨#[110, 111, 100, 101, 32]⟩ : ByteArray) ++ nm) ++ ⟨#[32]⟩) ++ wd) ⟨#[58]⟩).run Tryz.prog W = .ok (.string (((((⟨#[110, 111, 100, 101, 32]⟩ : ByteArray) ++ nm) ++ ⟨#[32]⟩) ++ wd) ++ ⟨#[58]⟩)) W := fun W => run_string_add_sum W _ _ (by first | omega | (repeat rw [ByteArray.size_append]) <;> omega)
   have hc4 : ∀ W, (Op.stringOp .add (((((⟨#[110, 111, 100, 101, 32]⟩ : ByteArray) ++ nm) ++ ⟨#[32]⟩) ++ wd) ++ ⟨#[58]⟩) t1).run Tryz.prog W = .ok (.string ((((((⟨#[110, 111, 100, 101, 32]⟩ : ByteArray) ++ nm) ++ ⟨#[32]⟩) ++ wd) ++ ⟨#[58]⟩) ++ t1)) W := fun W => run_string_add_sum W _ _ (by first | omega | (repeat rw [ByteArray.size_append]) <;> omega)
   have hc5 : ∀ W, (Op.stringOp .add ((((((⟨#[110, 111, 100, 101, 32]⟩ : ByteArray) ++ nm) ++ ⟨#[32]⟩) ++ wd) ++ ⟨#[58]⟩) ++ t1) ⟨#[58]⟩).run Tryz.prog W = .ok (.string (((((((⟨#[110, 111, 100, 101, 32]⟩ : ByteArray) ++ nm) ++ ⟨#[32]⟩) ++ wd) ++ ⟨#[58]⟩) ++ t1) ++ ⟨#[58]⟩)) W := fun W => run_string_add_sum W _ _ (by first | omega | (repeat rw [ByteArray.size_append]) <;> omega)
   have hc6 : ∀ W, (Op.stringOp .add (((((((⟨#[110, 111, 100, 101, 32]⟩ : ByteArray) ++ nm) ++ ⟨#[32]⟩) ++ wd) ++ ⟨#[58]⟩) ++ t1) ++ ⟨#[58]⟩) t2).run Tryz.prog W = .ok (.string ((((((((⟨#[110, 111, 100, 101, 32]⟩ : ByteArray) ++ nm) ++ ⟨#[32]⟩) ++ wd) ++ ⟨#[58]⟩) ++ t1) ++ ⟨#[58]⟩) ++ t2)) W := fun W => run_string_add_sum W _ _ (by first | omega | (repeat rw [ByteArray.size_append]) <;> omega)
   have hc7 : ∀ W, (Op.stringOp .add ((((((((⟨#[110, 111, 100, 101, 32]⟩ : ByteArray) ++ nm) ++ ⟨#[32]⟩) ++ wd) ++ ⟨#[58]⟩) ++ t1) ++ ⟨#[58]⟩) ++ t2) ⟨#[32]⟩).run Tryz.prog W = .ok (.string (((((((((⟨#[110, 111, 100, 101, 32]⟩ : ByteArray) ++ nm) ++ ⟨#[32]⟩) ++ wd) ++ ⟨#[58]⟩) ++ t1) ++ ⟨#[58]⟩) ++ t2) ++ ⟨#[32]⟩)) W := fun W => run_string_add_sum W _ _ (by first | omega | (repeat rw [ByteArray.size_append]) <;> omega)
   have hc8 : ∀ W, (Op.stringOp .add (((((((((⟨#[110, 111, 100, 101, 32]⟩ : ByteArray) ++ nm) ++ ⟨#[32]⟩) ++ wd) ++ ⟨#[58]⟩) ++ t1) ++ ⟨#[58]⟩) ++ t2) ++ ⟨#[32]⟩) t3).run Tryz.prog W = .ok (.string ((((((((((⟨#[110, 111, 100, 101, 32]⟩ : ByteArray) ++ nm) ++ ⟨#[32]⟩) ++ wd) ++ ⟨#[58]⟩) ++ t1) ++ ⟨#[58]⟩) ++ t2) ++ ⟨#[32]⟩) ++ t3)) W := fun W => run_string_add_sum W _ _ (by first | omega | (repeat rw [ByteArray.size_append]) <;> omega)
   have hc9 : ∀ W, (Op.stringOp .add ((((((((((⟨#[110, 111, 100, 101, 32]⟩ : ByteArray) ++ nm) ++ ⟨#[32]⟩) ++ wd) ++ ⟨#[58]⟩) ++ t1) ++ ⟨#[58]⟩) ++ t2) ++ ⟨#[32]⟩) ++ t3) ⟨#[32]⟩).run Tryz.prog W = .ok (.string (((((((((((⟨#[110, 111, 100, 101, 32]⟩ : ByteArray) ++ nm) ++ ⟨#[32]⟩) ++ wd) ++ ⟨#[58]⟩) ++ t1) ++ ⟨#[58]⟩) ++ t2) ++ ⟨#[32]⟩) ++ t3) ++ ⟨#[32]⟩)) W := fun W => run_string_add_sum W _ _ (by first | omega | (repeat rw [ByteArray.size_append]) <;> omega)
   have hc10 : ∀ W, (Op.stringOp .add (((((((((((⟨#[110, 111, 100, 101, 32]⟩ : ByteArray) ++ nm) ++ ⟨#[32]⟩) ++ wd) ++ ⟨#[58]⟩) ++ t1) ++ ⟨#[58]⟩) ++ t2) ++ ⟨#[32]⟩) ++ t3) ++ ⟨#[32]⟩) t0).run Tryz.prog W = .ok (.string ((((((((((((⟨#[110, 111, 100, 101, 32]⟩ : ByteArray) ++ nm) ++ ⟨#[32]⟩) ++ wd) ++ ⟨#[58]⟩) ++ t1) ++ ⟨#[58]⟩) ++ t2) ++ ⟨#[32]⟩) ++ t3) ++ ⟨#[32]⟩) ++ t0)) W := fun W => run_string_add_sum W _ _ (by first | omega | (repeat rw [ByteArray.size_append]) <;> omega)
   clear z5 z32 z58;have hB1d := hB1.drew;go_wp2;refine wp_walks (zl := []) (S := fun Y => Y.cell? ⟨w.heap.size, 0, none⟩ = some (.string nm) ∧ Y.cell? ⟨w.heap.size, 1, none⟩ = some (.int .i64 (j : Int)) ∧ Y.cell? ⟨w.heap.size, 2, none⟩ = some (.int .i64 sa) ∧ Y.cell? ⟨w.heap.size, 3, none⟩ = some (.int .i64 sb) ∧ Y.cell? ⟨w.heap.size, 4, none⟩ = some (.int .i64 cp)) (by kernel_rfl) ⟨X1.out.drew.c 0 rfl, X1.out.drew.c 1 rfl, X1.out.drew.c 2 rfl, X1.out.drew.c 3 rfl, X1.out.drew.c 4 rfl⟩ (fun hH => ?_);refine Walks.tk 0 hH ?_;refine Walks.tk 1 hH ?_;refine Walks.tk 2 hH ?_;refine Walks.tk 3 hH ?_;refine Walks.tk 5 hH ?_;refine Walks.tk 6 hH ?_;refine Walks.tk 7 hH ?_;refine Walks.tk 12 hH ?_;refine Walks.tk 13 hH ?_;refine Walks.tk 14 hH ?_;refine Walks.tk 18 hH ?_;refine Walks.tk 19 hH ?_;refine Walks.tk 20 hH ?_;refine Walks.tk 24 hH ?_;refine Walks.tk 25 hH ?_;refine Walks.tk 29 hH ?_;refine Walks.on 4 fun K hK => ?_
   go_simp;refine (HKD.out _).mono ?_;rintro e w2 ⟨q, rfl, ⟨hq2, hq0, hqc⟩, hb2⟩;have hB2 := hB1d.trans (hb2.mono hB1d.size);have X2 := hid (X1.out.drew.later hb2);have K2 : w2.cell? ⟨q, j, none⟩ = some (.string wd) := HWE.out w2 q hqc;have hH2 : (w2.cell? ⟨w.heap.size, 0, none⟩ = some (.string nm) ∧ w2.cell? ⟨w.heap.size, 1, none⟩ = some (.int .i64 (j : Int)) ∧ w2.cell? ⟨w.heap.size, 2, none⟩ = some (.int .i64 sa) ∧ w2.cell? ⟨w.heap.size, 3, none⟩ = some (.int .i64 sb) ∧ w2.cell? ⟨w.heap.size, 4, none⟩ = some (.int .i64 cp)) ∧ w2.cell? ⟨q, j, none⟩ = some (.string wd) := ⟨⟨X2.out.c 0 rfl, X2.out.c 1 rfl, X2.out.c 2 rfl, X2.out.c 3 rfl, X2.out.c 4 rfl⟩, K2⟩;clear hb2 hqc hq0;refine hK.out _ _ (fun _ => hH2.1) (fun _ => ?_);clear hK K;refine Walks.weaken (S' := fun Y => (Y.cell? ⟨w.heap.size, 0, none⟩ = some (.string nm) ∧ Y.cell? ⟨w.heap.size, 1, none⟩ = some (.int .i64 (j : Int)) ∧ Y.cell? ⟨w.heap.size, 2, none⟩ = some (.int .i64 sa) ∧ Y.cell? ⟨w.heap.size, 3, none⟩ = some (.int .i64 sb) ∧ Y.cell? ⟨w.heap.size, 4, none⟩ = some (.int .i64 cp)) ∧ Y.cell? ⟨q, j, none⟩ = some (.string wd)) (fun _ h => h.1) ?_;refine Walks.tk 8 hH2 ?_;refine Walks.tk 9 hH2 ?_;refine Walks.tk 10 hH2 ?_;refine Walks.tk 11 hH2 ?_;refine Walks.on 15 fun K hK => ?_
   go_simp;refine (HN1.out _).mono ?_;rintro e w3 ⟨rfl, hb3⟩;have hB3 := hB2.trans (hb3.mono hB2.size);have X3 := hid (X2.out.later hb3);have K3 : w3.cell? ⟨q, j, none⟩ = some (.string wd) := (hb3.cell (p := ⟨q, j, none⟩) (by dsimp only; omega)).trans K2;have hq3 : q < w3.heap.size := (by have := hb3.size; omega);have hH3 : (w3.cell? ⟨w.heap.size, 0, none⟩ = some (.string nm) ∧ w3.cell? ⟨w.heap.size, 1, none⟩ = some (.int .i64 (j : Int)) ∧ w3.cell? ⟨w.heap.size, 2, none⟩ = some (.int .i64 sa) ∧ w3.cell? ⟨w.heap.size, 3, none⟩ = some (.int .i64 sb) ∧ w3.cell? ⟨w.heap.size, 4, none⟩ = some (.int .i64 cp)) ∧ w3.cell? ⟨q, j, none⟩ = some (.string wd) := ⟨⟨X3.out.c 0 rfl, X3.out.c 1 rfl, X3.out.c 2 rfl, X3.out.c 3 rfl, X3.out.c 4 rfl⟩, K3⟩;clear hb3;refine hK.out _ _ (fun _ => hH3) (fun _ => ?_);clear hK K;refine Walks.tk 16 hH3 ?_;refine Walks.tk 17 hH3 ?_;refine Walks.on 21 fun K hK => ?_
   go_simp;refine (HN2.out _).mono ?_;rintro e w4 ⟨rfl, hb4⟩;have hB4 := hB3.trans (hb4.mono hB3.size);have X4 := hid (X3.out.later hb4);have K4 : w4.cell? ⟨q, j, none⟩ = some (.string wd) := (hb4.cell (p := ⟨q, j, none⟩) (by dsimp only; omega)).trans K3;have hq4 : q < w4.heap.size := (by have := hb4.size; omega);have hH4 : (w4.cell? ⟨w.heap.size, 0, none⟩ = some (.string nm) ∧ w4.cell? ⟨w.heap.size, 1, none⟩ = some (.int .i64 (j : Int)) ∧ w4.cell? ⟨w.heap.size, 2, none⟩ = some (.int .i64 sa) ∧ w4.cell? ⟨w.heap.size, 3, none⟩ = some (.int .i64 sb) ∧ w4.cell? ⟨w.heap.size, 4, none⟩ = some (.int .i64 cp)) ∧ w4.cell? ⟨q, j, none⟩ = some (.string wd) := ⟨⟨X4.out.c 0 rfl, X4.out.c 1 rfl, X4.out.c 2 rfl, X4.out.c 3 rfl, X4.out.c 4 rfl⟩, K4⟩;clear hb4;refine hK.out _ _ (fun _ => hH4) (fun _ => ?_);clear hK K;refine Walks.tk 22 hH4 ?_;refine Walks.tk 23 hH4 ?_;refine Walks.on 26 fun K hK => ?_
   go_simp;refine (HN3.out _).mono ?_;rintro e w5 ⟨rfl, hb5⟩;have hB5 := hB4.trans (hb5.mono hB4.size);have X5 := hid (X4.out.later hb5);have K5 : w5.cell? ⟨q, j, none⟩ = some (.string wd) := (hb5.cell (p := ⟨q, j, none⟩) (by dsimp only; omega)).trans K4;have hq5 : q < w5.heap.size := (by have := hb5.size; omega);have hH5 : (w5.cell? ⟨w.heap.size, 0, none⟩ = some (.string nm) ∧ w5.cell? ⟨w.heap.size, 1, none⟩ = some (.int .i64 (j : Int)) ∧ w5.cell? ⟨w.heap.size, 2, none⟩ = some (.int .i64 sa) ∧ w5.cell? ⟨w.heap.size, 3, none⟩ = some (.int .i64 sb) ∧ w5.cell? ⟨w.heap.size, 4, none⟩ = some (.int .i64 cp)) ∧ w5.cell? ⟨q, j, none⟩ = some (.string wd) := ⟨⟨X5.out.c 0 rfl, X5.out.c 1 rfl, X5.out.c 2 rfl, X5.out.c 3 rfl, X5.out.c 4 rfl⟩, K5⟩;clear hb5;refine hK.out _ _ (fun _ => hH5) (fun _ => ?_);clear hK K;refine Walks.tk 27 hH5 ?_;refine Walks.tk 28 hH5 ?_;refine Walks.tk 30 hH5 ?_;refine Walks.on 31 fun K hK => ?_
   go_simp;refine hK.out _ _ (fun _ => hH5) (fun _ => ?_);clear hK K;refine Walks.done (by kernel_rfl) ?_ _;go_wp2;go_ret;exact ⟨by rw [HR.out]; rfl, hB5⟩
end
section
open Go.RowKit

/-- A list of bytes cut at a mark. -/
def splitL (m : UInt8) : List UInt8 → List (List UInt8)
 | [] => [[]]
 | x :: r => if x = m then [] :: splitL m r else match splitL m r with
  | [] => [[x]]
  | p :: ps => (x :: p) :: ps
theorem splitL_ne (m : UInt8) : ∀ l, splitL m l ≠ []
 | [] => by simp [splitL]
 | x :: r => by
  rw [splitL]
  split
  ·simp
  ·split <;> simp
theorem splitL_join (m : UInt8) : ∀ l, Lib.join (splitL m l) [m] = l
 | [] => by simp [splitL, Lib.join_one]
 | x :: r => by
  have ih := splitL_join m r;have hne := splitL_ne m r;rw [splitL]
  split
  ·next h =>
   cases hs : splitL m r with
   | nil => exact absurd hs hne
   | cons p ps =>
    rw [hs] at ih;rw [Lib.join_cons, List.nil_append, Lib.joinTail, List.map_cons, List.flatten_cons];rw [Lib.join_cons] at ih;subst h
    simpa [Lib.joinTail] using ih
  ·cases hs : splitL m r with
   | nil => exact absurd hs hne
   | cons p ps =>
    rw [hs] at ih;dsimp only;rw [Lib.join_cons] at ih ⊢;rw [List.cons_append, ih]
theorem splitL_one {m : UInt8} : ∀ {p : List UInt8}, m ∉ p → splitL m p = [p]
 | [], _ => rfl
 | x :: r, h => by
  have hx : x ≠ m := fun e => h (by simp [e])
  rw [splitL, if_neg hx, splitL_one (p := r) fun hm => h (by simp [hm])]
theorem splitL_app {m : UInt8} : ∀ {p : List UInt8} (r : List UInt8), m ∉ p → splitL m (p ++ m :: r) = p :: splitL m r
 | [], r, _ => by simp [splitL]
 | x :: p, r, h => by
  have hx : x ≠ m := fun e => h (by simp [e])
  rw [List.cons_append, splitL, if_neg hx, splitL_app (p := p) r fun hm => h (by simp [hm])]
theorem splitL_of_join {m : UInt8} : ∀ {ps : List (List UInt8)}, ps ≠ [] → (∀ p ∈ ps, m ∉ p) → splitL m (Lib.join ps [m]) = ps
 | [], h, _ => absurd rfl h
 | [p], _, h => by rw [Lib.join_one]; exact splitL_one (h p (by simp))
 | p :: q :: r, _, h => by
  have ih := splitL_of_join (ps := q :: r) (by simp) fun x hx => h x (by simp [hx])
  have e : Lib.join (p :: q :: r) [m] = p ++ m :: Lib.join (q :: r) [m] := by
   rw [Lib.join_cons, Lib.join_cons]; simp [Lib.joinTail]
  rw [e, splitL_app _ (h p (by simp)), ih]
/-- A text cut at a mark, from a place on. -/
def splitGo (s : ByteArray) (m : Int) : Nat → Nat → Nat → List ByteArray
 | 0, _, f => [s.extract f s.size]
 | n + 1, i, f => if byteI s i = m then s.extract f i :: splitGo s m n (i + 1) (i + 1) else splitGo s m n (i + 1) f
def splitB (s : ByteArray) (m : Int) : List ByteArray := splitGo s m s.size 0 0
theorem splitGo_skip (s : ByteArray) (m : Int) : ∀ (d n i f : Nat), (∀ k, i ≤ k → k < i + d → byteI s k ≠ m) → d ≤ n → splitGo s m n i f = splitGo s m (n - d) (i + d) f
 | 0, n, i, f, _, _ => rfl
 | d + 1, 0, i, f, _, hn => by omega
 | d + 1, n + 1, i, f, h, hn => by
  rw [splitGo, if_neg (h i (by omega) (by omega)), splitGo_skip s m d n (i + 1) f (fun k h1 h2 => h k (by omega) (by omega)) (by omega)]
  congr 1
  ·omega
  ·omega
theorem splitGo_len (s : ByteArray) (m : Int) : ∀ (n i f : Nat), (splitGo s m n i f).length ≤ n + 1
 | 0, i, f => by simp [splitGo]
 | n + 1, i, f => by
  rw [splitGo]
  split
  ·have := splitGo_len s m n (i + 1) (i + 1); simp; omega
  ·have := splitGo_len s m n (i + 1) f; omega
theorem splitB_len (s : ByteArray) (m : Int) : (splitB s m).length ≤ s.size + 1 := splitGo_len s m _ _ _
theorem extract_list (s : ByteArray) (a b : Nat) : (s.extract a b).data.toList = (s.data.toList.drop a).take (b - a) := by
 rw [ByteArray.data_extract, Array.toList_extract, List.extract_eq_take_drop]
theorem list_at {s : ByteArray} {i : Nat} (h : i < s.size) : s.data.toList.drop i = s[i] :: s.data.toList.drop (i + 1) := by
 have h' : i < s.data.toList.length := by rw [Array.length_toList]; exact h
 rw [List.drop_eq_getElem_cons h']
 congr 1
/-- The two ways to cut are one. -/
theorem splitGo_list (s : ByteArray) (m : UInt8) : ∀ (n i f : Nat), i + n = s.size → f ≤ i → (splitGo s (m.toNat : Int) n i f).map (·.data.toList) = match splitL m (s.data.toList.drop i) with | [] => [] | p :: ps => ((s.data.toList.drop f).take (i - f) ++ p) :: ps
 | 0, i, f, hi, hf => by
  have e : s.data.toList.drop i = [] := List.drop_eq_nil_of_le (by rw [Array.length_toList]; have : s.data.size = s.size := rfl; omega);rw [e];simp only [splitGo, splitL, List.map_cons, List.map_nil, extract_list];rw [show s.size - f = i - f by omega]; simp
 | n + 1, i, f, hi, hf => by
  have hlt : i < s.size := by omega
  rw [list_at hlt, splitGo, splitL];have hb : byteI s i = (m.toNat : Int) ↔ s[i] = m := by
   rw [byteI_at hlt]
   constructor
   ·intro h; exact UInt8.toNat_inj.1 (by omega)
   ·intro h; rw [h]
  by_cases h : s[i] = m
  ·rw [if_pos (hb.2 h), if_pos h];have ih := splitGo_list s m n (i + 1) (i + 1) (by omega) (Nat.le_refl _);rw [List.map_cons, ih, extract_list];have hne := splitL_ne m (s.data.toList.drop (i + 1))
   cases hs : splitL m (s.data.toList.drop (i + 1)) with
   | nil => exact absurd hs hne
   | cons p ps => simp
  ·rw [if_neg (fun e => h (hb.1 e)), if_neg h];have ih := splitGo_list s m n (i + 1) f (by omega) (by omega);rw [ih];have hne := splitL_ne m (s.data.toList.drop (i + 1))
   cases hs : splitL m (s.data.toList.drop (i + 1)) with
   | nil => exact absurd hs hne
   | cons p ps =>
    have e : (s.data.toList.drop f).take (i + 1 - f) = (s.data.toList.drop f).take (i - f) ++ [s[i]] := by
     rw [show i + 1 - f = (i - f) + 1 by omega, List.take_add_one]
     congr 1
     rw [List.getElem?_drop, show f + (i - f) = i by omega];have h' : i < s.data.toList.length := by rw [Array.length_toList]; exact hlt
     rw [List.getElem?_eq_getElem h']; rfl
    simp [e]
theorem splitB_list (s : ByteArray) (m : UInt8) : (splitB s (m.toNat : Int)).map (·.data.toList) = splitL m s.data.toList := by
 have h := splitGo_list s m s.size 0 0 (by omega) (Nat.le_refl _);rw [splitB, h];have hne := splitL_ne m (s.data.toList.drop 0);rw [List.drop_zero] at hne ⊢
 cases hs : splitL m s.data.toList with
 | nil => exact absurd hs hne
 | cons p ps => simp
theorem splitB_pos (s : ByteArray) (m : UInt8) : 0 < (splitB s (m.toNat : Int)).length := by
 have h := congrArg List.length (splitB_list s m);rw [List.length_map] at h;have := List.length_pos_iff.2 (splitL_ne m s.data.toList)
 omega
theorem splitB_join (s : ByteArray) (m : UInt8) : joinB (splitB s (m.toNat : Int)) ⟨#[m]⟩ = s := by
 apply ba_ext
 rw [joinB_data, splitB_list];exact splitL_join m _
theorem map_data_inj : ∀ {a b : List ByteArray}, a.map (·.data.toList) = b.map (·.data.toList) → a = b
 | [], [], _ => rfl
 | [], _ :: _, h => by simp at h
 | _ :: _, [], h => by simp at h
 | x :: a, y :: b, h => by
  simp only [List.map_cons, List.cons.injEq] at h;rw [ba_ext h.1, map_data_inj h.2]
/-- What is joined of parts that lack the mark is cut into them. -/
theorem splitB_of_join {ps : List ByteArray} {m : UInt8} (h0 : ps ≠ []) (h : ∀ p ∈ ps, m ∉ p.data.toList) : splitB (joinB ps ⟨#[m]⟩) (m.toNat : Int) = ps := by
 apply map_data_inj
 rw [splitB_list, joinB_data];refine splitL_of_join (by simpa using h0) fun p hp => ?_
 obtain ⟨x, hx, rfl⟩ := List.mem_map.1 hp;exact h x hx
end
end Go.Proofs.YtdacedbfnlkghaaGreatDoor
