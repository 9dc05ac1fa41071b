
/- The text of a node: the program's. No conditions but those written. -/
import Derived.Test.YtekadjjofcicaaaDoorTna
import Derived.Test.YtekadjjofcicaaaDoorTnb
import Derived.Test.YtekadjjofcicaaaDoorSk
namespace Go.Proofs.YtekadjjofcicaaaDoor
open Go.RowKit

/-- The kinds' words. -/
def wordB (k : Int) : ByteArray := if k = 1 then ⟨#[109, 97, 112]⟩ else if k = 2 then ⟨#[102, 105, 108, 116, 101, 114]⟩ else if k = 3 then ⟨#[101, 120, 112, 97, 110, 100]⟩ else if k = 4 then ⟨#[112, 111, 105, 115, 111, 110]⟩ else ⟨#[]⟩
theorem wordB_size (k : Int) : (wordB k).size ≤ 6 := by
  unfold wordB
  split
  · decide
  · split
    · decide
    · split
      · decide
      · split <;> decide
/-- The table of the kinds' words lies as it was laid. -/
structure Wds (w : World) : Prop where
  lt : 0 < w.heap.size
  cell : ∀ j : Nat, j < 5 → w.cell? ⟨0, j, none⟩ = some (.string (wordB (j : Int)))
theorem Wds.below {n : Nat} {w w' : World} (h : Wds w) (hb : Below n w w') (hn : 0 < n) : Wds w' :=
  ⟨Nat.lt_of_lt_of_le h.lt hb.size, fun j hj => (hb.cell (p := ⟨0, j, none⟩) hn).trans (h.cell j hj)⟩
theorem Wds.later {w w' : World} (h : Wds w) (hb : Below w.heap.size w w') : Wds w' := h.below hb h.lt
/-- A stage's text. -/
def stageT (kd sa sb : Int) : ByteArray := (wordB kd ++ ⟨#[58]⟩) ++ numsT ⟨#[58]⟩ [sa, sb]
def In64 (x : Int) : Prop := -9223372036854775808 ≤ x ∧ x ≤ 9223372036854775807
theorem ints64_two {x y : Int} (hx : In64 x) (hy : In64 y) : Ints64 [x, y] := by
  intro z hz
  simp at hz
  rcases hz with rfl | rfl
  · exact hx
  · exact hy
set_option maxRecDepth 10000 in
set_option maxHeartbeats 4000000 in
theorem stageText_is (j : Nat) (sa sb : Int) (w : World) (hj5 : j < 5) (ha : In64 sa) (hb : In64 sb) (hT : PowTab w) (hW : Wds w) :
    Calls Tryd.prog 20 #[.agg #[.int .i64 (j : Int), .int .i64 sa, .int .i64 sb]] w fun e w' => e = .returned (.string (stageT (j : Int) sa sb)) ∧ Below w.heap.size w w' := by
  have hs := numsT_size (ints64_two ha hb) ⟨#[58]⟩
  have hs2 : (numsT ⟨#[58]⟩ [sa, sb]).size ≤ 100 := Nat.le_trans hs (by simp [ByteArray.size])
  clear hs
  have HR : Hid (stageT (j : Int) sa sb = (wordB (j : Int) ++ ⟨#[58]⟩) ++ numsT ⟨#[58]⟩ [sa, sb]) := rfl
  have hws := wordB_size (j : Int)
  have hgl := hW.cell j hj5
  have hlt := hW.lt
  have hcon : ∀ (q : Nat) (W : World), kI.In W.heap.size W (some ⟨q, 0, none⟩) [sa, sb] → PowTab W → Calls Tryd.prog 44 #[.slice (some ⟨q, 0, none⟩) 2 2, .string ⟨#[58]⟩] W fun e w' => e = .returned (.string (numsT ⟨#[58]⟩ [sa, sb])) ∧ Below W.heap.size W w' := fun q W h1 h2 => numbersText_is (some ⟨q, 0, none⟩) 2 [sa, sb] ⟨#[58]⟩ W (by simp) (by decide) (ints64_two ha hb) h1 h2
  generalize numsT ⟨#[58]⟩ [sa, sb] = t at hs2 HR hcon
  generalize wordB (j : Int) = wd at hgl HR hws
  have HC := hid hcon
  have HT := hid hT
  clear hcon hT hW ha hb
  have X0 := Bx.new (w := w) [.int .i64 (j : Int), .int .i64 sa, .int .i64 sb] 30 rfl
  have hB0 := below1 w (.cells #[.int .i64 (j : Int), .int .i64 sa, .int .i64 sb] 30)
  have hVs : w.heap.size < (w.alloc (.cells #[.int .i64 (j : Int), .int .i64 sa, .int .i64 sb] 30)).heap.size := X0.size
  have g0 := (hB0.cell (p := ⟨0, j, none⟩) hlt).trans hgl
  obtain ⟨V, hV⟩ : ∃ V, V = w.alloc (.cells #[.int .i64 (j : Int), .int .i64 sa, .int .i64 sb] 30) := ⟨_, rfl⟩
  have hc1 : ∀ W, (Op.stringOp .add wd ⟨#[58]⟩).run Tryd.prog W = .ok (.string (wd ++ ⟨#[58]⟩)) W := fun W => run_string_add_sum W _ _ (by have : (⟨#[58]⟩ : ByteArray).size = 1 := rfl; omega)
  have hc2 : ∀ W, (Op.stringOp .add (wd ++ ⟨#[58]⟩) t).run Tryd.prog W = .ok (.string ((wd ++ ⟨#[58]⟩) ++ t)) W := fun W => run_string_add_sum W _ _ (by have : (⟨#[58]⟩ : ByteArray).size = 1 := rfl; rw [ByteArray.size_append]; omega)
  have hi0 : (0 : Int) ≤ (j : Int) := by omega
  have hi5 : (j : Int) < 5 := by omega
  go_enter Tryd.func20, Tryd.ntmps20
  go_wp2
  rw [← hV] at X0 hB0 g0 hVs ⊢
  have P0 : V.cell? ⟨w.heap.size, 0, none⟩ = some (.int .i64 (j : Int)) ∧ V.cell? ⟨w.heap.size, 1, none⟩ = some (.int .i64 sa) ∧ V.cell? ⟨w.heap.size, 2, none⟩ = some (.int .i64 sb) ∧ V.cell? ⟨0, j, none⟩ = some (.string wd) := ⟨X0.c 0 rfl, X0.c 1 rfl, X0.c 2 rfl, g0⟩
  have hB1 : Below w.heap.size w (V.alloc (.cells #[.int .i64 sa, .int .i64 sb] 3)).drew := (Below.allocS hB0 _).drew
  have X1 : Bx (V.alloc (.cells #[.int .i64 sa, .int .i64 sb] 3)).drew w.heap.size [.int .i64 (j : Int), .int .i64 sa, .int .i64 sb] := (X0.alloc _).drew
  have Y1 : Bx (V.alloc (.cells #[.int .i64 sa, .int .i64 sb] 3)).drew V.heap.size [.int .i64 sa, .int .i64 sb] := (Bx.new _ _ rfl).drew
  have HI : Hid (kI.In (V.alloc (.cells #[.int .i64 sa, .int .i64 sb] 3)).drew.heap.size (V.alloc (.cells #[.int .i64 sa, .int .i64 sb] 3)).drew (some ⟨V.heap.size, 0, none⟩) [sa, sb]) := ints_mk Y1.size fun j hj => by
    have hj2 : j = 0 ∨ j = 1 := by simp at hj; omega
    rcases hj2 with rfl | rfl
    · exact Y1.c 0 rfl
    · exact Y1.c 1 rfl
  have HPT : Hid (PowTab (V.alloc (.cells #[.int .i64 sa, .int .i64 sb] 3)).drew) := HT.out.later hB1
  have P1 : (V.alloc (.cells #[.int .i64 sa, .int .i64 sb] 3)).drew.cell? ⟨w.heap.size, 0, none⟩ = some (.int .i64 (j : Int)) ∧ (V.alloc (.cells #[.int .i64 sa, .int .i64 sb] 3)).drew.cell? ⟨w.heap.size, 1, none⟩ = some (.int .i64 sa) ∧ (V.alloc (.cells #[.int .i64 sa, .int .i64 sb] 3)).drew.cell? ⟨w.heap.size, 2, none⟩ = some (.int .i64 sb) ∧ (V.alloc (.cells #[.int .i64 sa, .int .i64 sb] 3)).drew.cell? ⟨0, j, none⟩ = some (.string wd) := ⟨X1.c 0 rfl, X1.c 1 rfl, X1.c 2 rfl, ((below1 V _).cell (p := ⟨0, j, none⟩) (Nat.lt_trans hlt hVs)).trans g0⟩
  have HL : Hid (0 < ((V.alloc (.cells #[.int .i64 sa, .int .i64 sb] 3)).drew).heap.size) := by rw [Hid]; simp <;> omega
  have HX1 := hid X1
  clear X0 hVs hgl g0 hV Y1 X1
  have PD : V.drew.cell? ⟨w.heap.size, 0, none⟩ = some (.int .i64 (j : Int)) ∧ V.drew.cell? ⟨w.heap.size, 1, none⟩ = some (.int .i64 sa) ∧ V.drew.cell? ⟨w.heap.size, 2, none⟩ = some (.int .i64 sb) ∧ V.drew.cell? ⟨0, j, none⟩ = some (.string wd) := P0
  go_region_held3 (fun Y => Y.cell? ⟨w.heap.size, 0, none⟩ = some (.int .i64 (j : Int)) ∧ Y.cell? ⟨w.heap.size, 1, none⟩ = some (.int .i64 sa) ∧ Y.cell? ⟨w.heap.size, 2, none⟩ = some (.int .i64 sb) ∧ Y.cell? ⟨0, j, none⟩ = some (.string wd))
    (first | (with_reducible exact P0) | (with_reducible exact PD) | (with_reducible exact P1) | (with_reducible exact P2))
    ((go_at_call 44; refine (HC.out V.heap.size _ HI.out HPT.out).mono ?_; rintro e w1 ⟨rfl, hb1⟩; have X2 := HX1.out.later hb1; have P2 : w1.cell? ⟨w.heap.size, 0, none⟩ = some (.int .i64 (j : Int)) ∧ w1.cell? ⟨w.heap.size, 1, none⟩ = some (.int .i64 sa) ∧ w1.cell? ⟨w.heap.size, 2, none⟩ = some (.int .i64 sb) ∧ w1.cell? ⟨0, j, none⟩ = some (.string wd) := ⟨X2.c 0 rfl, X2.c 1 rfl, X2.c 2 rfl, (hb1.cell (p := ⟨0, j, none⟩) HL.out).trans P1.2.2.2⟩; have hB2 := hB1.trans (hb1.mono hB1.size); clear hb1 X2))
  all_goals go_wp2
  all_goals go_ret
  all_goals exact ⟨by rw [HR.out]; rfl, hB2⟩
theorem joinB_size (xs : List ByteArray) (sep : ByteArray) (c : Nat) (h : ∀ x ∈ xs, x.size ≤ c) : (joinB xs sep).size ≤ (xs.length + 1) * (sep.size + c) := by
  have := join_len sep.data.toList c (xs.map (·.data.toList)) fun x hx => by
    obtain ⟨z, hz, rfl⟩ := List.mem_map.1 hx
    have := h z hz
    rw [Array.length_toList]; exact this
  rw [List.length_map, Array.length_toList] at this
  show (Lib.join (xs.map (·.data.toList)) sep.data.toList).toArray.size ≤ _
  rw [List.size_toArray]; exact this
/-- A node's text. -/
def nodeB (nm : ByteArray) (kd sa sb cp : Int) (nx : List Int) : ByteArray := joinB [⟨#[110, 111, 100, 101]⟩, nm, stageT kd sa sb, tx (Lib.itoa cp), nextT nx] ⟨#[32]⟩
/-- What NodeText answers. -/
def nodeR (nm : ByteArray) (kd sa sb cp : Int) (nx : List Int) : ByteArray × Bool := if hasT nm kd sa sb cp nx = true then (nodeB nm kd sa sb cp nx, true) else (⟨#[]⟩, false)
structure HasT (nm : ByteArray) (kd sa sb cp : Int) (nx : List Int) : Prop where
  nam : nm.size ≤ 12
  kin : ∃ j : Nat, 1 ≤ j ∧ j < 5 ∧ kd = (j : Int)
  i1 : In64 sa
  i2 : In64 sb
  i3 : 0 ≤ cp ∧ cp ≤ 9999999
  len : nx.length ≤ 20
  nxs : ∀ x ∈ nx, 0 ≤ x ∧ x ≤ 9999999
theorem farB_no {x : Int} (h : farB x = false) : 0 ≤ x ∧ x ≤ 9999999 := by simp [farB] at h; omega
theorem hasT_has {nm : ByteArray} {kd sa sb cp : Int} {nx : List Int} (h : hasT nm kd sa sb cp nx = true) : HasT nm kd sa sb cp nx := by
  simp only [hasT, Bool.and_eq_true, Bool.not_eq_true', decide_eq_true_eq] at h
  obtain ⟨h1, h2, h3, h4, h5⟩ := h
  refine ⟨?_, ?_, ?_, ?_, farB_no h3, h4, fun x hx => ?_⟩
  · rcases Nat.lt_or_ge 12 nm.size with h | h
    · rw [nameB_size (.inr h)] at h1; cases h1
    · exact h
  · rcases good_kind h2 with rfl | rfl | rfl | rfl
    · exact ⟨1, by omega, by omega, rfl⟩
    · exact ⟨2, by omega, by omega, rfl⟩
    · exact ⟨3, by omega, by omega, rfl⟩
    · exact ⟨4, by omega, by omega, rfl⟩
  · rcases good_kind h2 with rfl | rfl | rfl | rfl
    · have := good1 h2; exact ⟨by omega, by omega⟩
    · have := good2 h2; exact ⟨by omega, by omega⟩
    · have := good3 h2; exact ⟨by omega, by omega⟩
    · have := good4 h2; exact ⟨by omega, by omega⟩
  · rcases good_kind h2 with rfl | rfl | rfl | rfl
    · have := good1 h2; exact ⟨by omega, by omega⟩
    · have := good2 h2; exact ⟨by omega, by omega⟩
    · have := good3 h2; exact ⟨by omega, by omega⟩
    · have := good4 h2; exact ⟨by omega, by omega⟩
  · refine farB_no ?_
    rw [List.any_eq_false] at h5
    simpa using h5 x hx
theorem HasT.i64 {nm : ByteArray} {kd sa sb cp : Int} {nx : List Int} (h : HasT nm kd sa sb cp nx) : Ints64 nx := fun x hx => by have := h.nxs x hx; omega
theorem nextT_size {nx : List Int} (h : nx.length ≤ 20) (h6 : Ints64 nx) : (nextT nx).size ≤ 462 := by
  unfold nextT
  split
  · decide
  · have := numsT_size h6 ⟨#[44]⟩
    have e : (⟨#[44]⟩ : ByteArray).size = 1 := rfl
    rw [e] at this
    have h2 : (nx.length + 1) * 22 ≤ 21 * 22 := Nat.mul_le_mul_right _ (by omega)
    omega
theorem stageT_size {kd sa sb : Int} (h1 : In64 sa) (h2 : In64 sb) : (stageT kd sa sb).size ≤ 107 := by
  have hs := numsT_size (ints64_two h1 h2) ⟨#[58]⟩
  have hs2 : (numsT ⟨#[58]⟩ [sa, sb]).size ≤ 100 := Nat.le_trans hs (by simp [ByteArray.size])
  have hw := wordB_size kd
  have e : (⟨#[58]⟩ : ByteArray).size = 1 := rfl
  rw [stageT, ByteArray.size_append, ByteArray.size_append]; omega
theorem nodeB_size {nm : ByteArray} {kd sa sb cp : Int} {nx : List Int} (h : HasT nm kd sa sb cp nx) : (nodeB nm kd sa sb cp nx).size ≤ 3000 := by
  have h3 := h.i3
  have := joinB_size [⟨#[110, 111, 100, 101]⟩, nm, stageT kd sa sb, tx (Lib.itoa cp), nextT nx] ⟨#[32]⟩ 462 fun x hx => by
    simp only [List.mem_cons, List.not_mem_nil, or_false] at hx
    rcases hx with rfl | rfl | rfl | rfl | rfl
    · decide
    · have := h.nam; omega
    · have := stageT_size (kd := kd) h.i1 h.i2; omega
    · have := itoa_short cp (by omega) (by omega); rw [tx_size]; omega
    · exact nextT_size h.len h.i64
  have e : (⟨#[32]⟩ : ByteArray).size = 1 := rfl
  rw [e] at this
  unfold nodeB
  simp only [List.length_cons, List.length_nil] at this
  omega
set_option maxRecDepth 10000 in
set_option maxHeartbeats 4000000 in
theorem implNodeText_is (nm : ByteArray) (kd sa sb cp : Int) (nxo : Option Addr) (nxc : Nat) (nx : List Int) (w : World) (hs : nm.size ≤ 9223372036854775807) (hl : nx.length ≤ 1048576) (hz : InNode w.heap.size w nxo nx) (hT : PowTab w) (hW : Wds w) :
    Calls Tryd.prog 8 #[.agg #[.string nm, .int .i64 kd, .int .i64 sa, .int .i64 sb, .int .i64 cp, .slice nxo nx.length nxc]] w fun e w' => e = .returned (.tuple #[.string (nodeR nm kd sa sb cp nx).1, .bool (nodeR nm kd sa sb cp nx).2]) ∧ Below w.heap.size w w' := by
  have hB0 := below1 w (.cells #[.string nm, .int .i64 kd, .int .i64 sa, .int .i64 sb, .int .i64 cp, .slice nxo nx.length nxc] 32)
  have X0 := hid (Bx.new (w := w) [.string nm, .int .i64 kd, .int .i64 sa, .int .i64 sb, .int .i64 cp, .slice nxo nx.length nxc] 32 rfl)
  have hcon := hasText_is nm kd sa sb cp nxo nxc nx _ hs (by omega) (Kind.In.later hz hB0)
  unfold nodeR
  cases hh : hasT nm kd sa sb cp nx
  · rw [if_neg (by simp)]
    rw [hh] at hcon
    have HC := hid hcon
    clear hcon
    go_enter Tryd.func8, Tryd.ntmps8
    go_wp2_with fail
    refine HC.out.mono ?_
    rintro e w1 ⟨rfl, hb1⟩
    have hB1 := hB0.trans (hb1.mono hB0.size)
    go_wp2
    exact bodyPost_ret (v := .tuple #[.string ⟨#[]⟩, .bool false]) (by simp [results, Tryd.results8, go_sem]) rfl ⟨rfl, hB1⟩
  rw [if_pos rfl]
  rw [hh] at hcon
  have HC := hid hcon
  have hH := hasT_has hh
  have hsz := nodeB_size hH
  have h3 := hH.i3
  obtain ⟨j, hj1, hj5, hkd⟩ := hH.kin
  subst hkd
  have hst := fun W h1 h2 => stageText_is j sa sb W hj5 hH.i1 hH.i2 h1 h2
  have hit := fun W h => itoa_any cp (by omega) (by omega) W h
  have hnt := fun W h1 h2 => nextText_is nxo nxc nx W hl hH.i64 h1 h2
  have hjn : ∀ (q : Nat) (W : World), kS.In W.heap.size W (some ⟨q, 0, none⟩) [⟨#[110, 111, 100, 101]⟩, nm, stageT (j : Int) sa sb, tx (Lib.itoa cp), nextT nx] → Calls Tryd.prog 23 #[.slice (some ⟨q, 0, none⟩) 5 5, .string ⟨#[32]⟩] W fun e w' => e = .returned (.string (nodeB nm (j : Int) sa sb cp nx)) ∧ Below W.heap.size W w' := fun q W h => join_any (some ⟨q, 0, none⟩) 5 [⟨#[110, 111, 100, 101]⟩, nm, stageT (j : Int) sa sb, tx (Lib.itoa cp), nextT nx] ⟨#[32]⟩ W h (by simp) (by simp) (by unfold nodeB at hsz; omega)
  generalize stageT (j : Int) sa sb = t1 at hst hjn
  generalize tx (Lib.itoa cp) = t2 at hit hjn
  generalize nextT nx = t3 at hnt hjn
  generalize nodeB nm (j : Int) sa sb cp nx = t4 at hjn ⊢
  have H1 := hid hst
  have H2 := hid hit
  have H3 := hid hnt
  have H4 := hid hjn
  have HT := hid hT
  have HW := hid hW
  have HZ := hid hz
  clear hcon hst hit hnt hjn hT hW hz hH hh hj1 hj5 h3 hsz
  go_enter Tryd.func8, Tryd.ntmps8
  go_wp2_with fail
  refine HC.out.mono ?_
  rintro e w1 ⟨rfl, hb1⟩
  have hB1 := hB0.trans (hb1.mono hB0.size)
  have X1 := hid (X0.out.later hb1)
  clear hb1 X0 hB0 HC
  have P1 : w1.cell? ⟨w.heap.size, 0, none⟩ = some (.string nm) ∧ w1.cell? ⟨w.heap.size, 1, none⟩ = some (.int .i64 (j : Int)) ∧ w1.cell? ⟨w.heap.size, 2, none⟩ = some (.int .i64 sa) ∧ w1.cell? ⟨w.heap.size, 3, none⟩ = some (.int .i64 sb) ∧ w1.cell? ⟨w.heap.size, 4, none⟩ = some (.int .i64 cp) ∧ w1.cell? ⟨w.heap.size, 5, none⟩ = some (.slice nxo nx.length nxc) := ⟨X1.out.c 0 rfl, X1.out.c 1 rfl, X1.out.c 2 rfl, X1.out.c 3 rfl, X1.out.c 4 rfl, X1.out.c 5 rfl⟩
  have PD : w1.drew.cell? ⟨w.heap.size, 0, none⟩ = some (.string nm) ∧ w1.drew.cell? ⟨w.heap.size, 1, none⟩ = some (.int .i64 (j : Int)) ∧ w1.drew.cell? ⟨w.heap.size, 2, none⟩ = some (.int .i64 sa) ∧ w1.drew.cell? ⟨w.heap.size, 3, none⟩ = some (.int .i64 sb) ∧ w1.drew.cell? ⟨w.heap.size, 4, none⟩ = some (.int .i64 cp) ∧ w1.drew.cell? ⟨w.heap.size, 5, none⟩ = some (.slice nxo nx.length nxc) := P1
  have hB1d := hB1.drew
  go_wp2
  go_region_held3 (fun Y => Y.cell? ⟨w.heap.size, 0, none⟩ = some (.string nm) ∧ Y.cell? ⟨w.heap.size, 1, none⟩ = some (.int .i64 (j : Int)) ∧ Y.cell? ⟨w.heap.size, 2, none⟩ = some (.int .i64 sa) ∧ Y.cell? ⟨w.heap.size, 3, none⟩ = some (.int .i64 sb) ∧ Y.cell? ⟨w.heap.size, 4, none⟩ = some (.int .i64 cp) ∧ Y.cell? ⟨w.heap.size, 5, none⟩ = some (.slice nxo nx.length nxc))
    (first | (with_reducible exact P1) | (with_reducible exact PD) | (with_reducible exact P2) | (with_reducible exact P3) | (with_reducible exact P4) | (with_reducible exact P5))
    (first
      | (go_at_call 20; refine (H1.out _ (HT.out.later hB1d) (HW.out.later hB1d)).mono ?_; rintro e w2 ⟨rfl, hb2⟩; have hB2 := hB1d.trans (hb2.mono hB1d.size); have X2 := hid (X1.out.drew.later hb2); have P2 : w2.cell? ⟨w.heap.size, 0, none⟩ = some (.string nm) ∧ w2.cell? ⟨w.heap.size, 1, none⟩ = some (.int .i64 (j : Int)) ∧ w2.cell? ⟨w.heap.size, 2, none⟩ = some (.int .i64 sa) ∧ w2.cell? ⟨w.heap.size, 3, none⟩ = some (.int .i64 sb) ∧ w2.cell? ⟨w.heap.size, 4, none⟩ = some (.int .i64 cp) ∧ w2.cell? ⟨w.heap.size, 5, none⟩ = some (.slice nxo nx.length nxc) := ⟨X2.out.c 0 rfl, X2.out.c 1 rfl, X2.out.c 2 rfl, X2.out.c 3 rfl, X2.out.c 4 rfl, X2.out.c 5 rfl⟩; clear hb2)
      | (go_at_call 21; refine (H2.out _ (HT.out.later hB2)).mono ?_; rintro e w3 ⟨rfl, hb3⟩; have hB3 := hB2.trans (hb3.mono hB2.size); have X3 := hid (X2.out.later hb3); have P3 : w3.cell? ⟨w.heap.size, 0, none⟩ = some (.string nm) ∧ w3.cell? ⟨w.heap.size, 1, none⟩ = some (.int .i64 (j : Int)) ∧ w3.cell? ⟨w.heap.size, 2, none⟩ = some (.int .i64 sa) ∧ w3.cell? ⟨w.heap.size, 3, none⟩ = some (.int .i64 sb) ∧ w3.cell? ⟨w.heap.size, 4, none⟩ = some (.int .i64 cp) ∧ w3.cell? ⟨w.heap.size, 5, none⟩ = some (.slice nxo nx.length nxc) := ⟨X3.out.c 0 rfl, X3.out.c 1 rfl, X3.out.c 2 rfl, X3.out.c 3 rfl, X3.out.c 4 rfl, X3.out.c 5 rfl⟩; clear hb3)
      | (go_at_call 22; refine (H3.out _ (Kind.In.later HZ.out hB3) (HT.out.later hB3)).mono ?_; rintro e w4 ⟨rfl, hb4⟩; have hB4 := hB3.trans (hb4.mono hB3.size); have X4 := hid (X3.out.later hb4); have P4 : w4.cell? ⟨w.heap.size, 0, none⟩ = some (.string nm) ∧ w4.cell? ⟨w.heap.size, 1, none⟩ = some (.int .i64 (j : Int)) ∧ w4.cell? ⟨w.heap.size, 2, none⟩ = some (.int .i64 sa) ∧ w4.cell? ⟨w.heap.size, 3, none⟩ = some (.int .i64 sb) ∧ w4.cell? ⟨w.heap.size, 4, none⟩ = some (.int .i64 cp) ∧ w4.cell? ⟨w.heap.size, 5, none⟩ = some (.slice nxo nx.length nxc) := ⟨X4.out.c 0 rfl, X4.out.c 1 rfl, X4.out.c 2 rfl, X4.out.c 3 rfl, X4.out.c 4 rfl, X4.out.c 5 rfl⟩; have P5 : (w4.alloc (.cells #[.string ⟨#[110, 111, 100, 101]⟩, .string nm, .string t1, .string t2, .string t3] 9)).cell? ⟨w.heap.size, 0, none⟩ = some (.string nm) ∧ (w4.alloc (.cells #[.string ⟨#[110, 111, 100, 101]⟩, .string nm, .string t1, .string t2, .string t3] 9)).cell? ⟨w.heap.size, 1, none⟩ = some (.int .i64 (j : Int)) ∧ (w4.alloc (.cells #[.string ⟨#[110, 111, 100, 101]⟩, .string nm, .string t1, .string t2, .string t3] 9)).cell? ⟨w.heap.size, 2, none⟩ = some (.int .i64 sa) ∧ (w4.alloc (.cells #[.string ⟨#[110, 111, 100, 101]⟩, .string nm, .string t1, .string t2, .string t3] 9)).cell? ⟨w.heap.size, 3, none⟩ = some (.int .i64 sb) ∧ (w4.alloc (.cells #[.string ⟨#[110, 111, 100, 101]⟩, .string nm, .string t1, .string t2, .string t3] 9)).cell? ⟨w.heap.size, 4, none⟩ = some (.int .i64 cp) ∧ (w4.alloc (.cells #[.string ⟨#[110, 111, 100, 101]⟩, .string nm, .string t1, .string t2, .string t3] 9)).cell? ⟨w.heap.size, 5, none⟩ = some (.slice nxo nx.length nxc) := ⟨(X4.out.alloc (.cells #[.string ⟨#[110, 111, 100, 101]⟩, .string nm, .string t1, .string t2, .string t3] 9)).c 0 rfl, (X4.out.alloc (.cells #[.string ⟨#[110, 111, 100, 101]⟩, .string nm, .string t1, .string t2, .string t3] 9)).c 1 rfl, (X4.out.alloc (.cells #[.string ⟨#[110, 111, 100, 101]⟩, .string nm, .string t1, .string t2, .string t3] 9)).c 2 rfl, (X4.out.alloc (.cells #[.string ⟨#[110, 111, 100, 101]⟩, .string nm, .string t1, .string t2, .string t3] 9)).c 3 rfl, (X4.out.alloc (.cells #[.string ⟨#[110, 111, 100, 101]⟩, .string nm, .string t1, .string t2, .string t3] 9)).c 4 rfl, (X4.out.alloc (.cells #[.string ⟨#[110, 111, 100, 101]⟩, .string nm, .string t1, .string t2, .string t3] 9)).c 5 rfl⟩; clear hb4))
  all_goals
    have Y5 : Bx (w4.alloc (.cells #[.string ⟨#[110, 111, 100, 101]⟩, .string nm, .string t1, .string t2, .string t3] 9)) w4.heap.size [.string ⟨#[110, 111, 100, 101]⟩, .string nm, .string t1, .string t2, .string t3] := Bx.new _ _ rfl
    have hB5 : Below w.heap.size w (w4.alloc (.cells #[.string ⟨#[110, 111, 100, 101]⟩, .string nm, .string t1, .string t2, .string t3] 9)) := Below.allocS hB4 _
    have H5 := hid (H4.out w4.heap.size (w4.alloc (.cells #[.string ⟨#[110, 111, 100, 101]⟩, .string nm, .string t1, .string t2, .string t3] 9)) (texts_mk Y5.size fun k hk => by
      have hk2 : k = 0 ∨ k = 1 ∨ k = 2 ∨ k = 3 ∨ k = 4 := by simp at hk; omega
      rcases hk2 with rfl | rfl | rfl | rfl | rfl
      · exact Y5.c 0 rfl
      · exact Y5.c 1 rfl
      · exact Y5.c 2 rfl
      · exact Y5.c 3 rfl
      · exact Y5.c 4 rfl))
    clear Y5
    go_wp2_with fail
    refine H5.out.mono ?_
    rintro e w5 ⟨rfl, hb5⟩
    have hB6 := hB5.trans (hb5.mono hB5.size)
    go_wp2
    exact bodyPost_ret (v := .tuple #[.string t4, .bool true]) (by simp [results, Tryd.results8, go_sem]) rfl ⟨rfl, hB6⟩
end Go.Proofs.YtekadjjofcicaaaDoor
