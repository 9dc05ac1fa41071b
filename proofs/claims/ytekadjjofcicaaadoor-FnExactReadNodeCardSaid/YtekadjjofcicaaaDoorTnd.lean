
/- The text of a node: the specification's. No conditions but those written. -/
import Derived.Test.YtekadjjofcicaaaDoorTnc
import Derived.Test.YtekadjjofcicaaaDoorRz
namespace Go.Proofs.YtekadjjofcicaaaDoor
open Go.RowKit

theorem ba_ext {a b : ByteArray} (h : a.data.toList = b.data.toList) : a = b := by
  apply ByteArray.ext
  exact Array.toList_inj.1 h
theorem ba_app (a b : ByteArray) : (a ++ b).data.toList = a.data.toList ++ b.data.toList := by simp [ByteArray.data_append]
theorem joinB_data (xs : List ByteArray) (sep : ByteArray) : (joinB xs sep).data.toList = Lib.join (xs.map (·.data.toList)) sep.data.toList := by simp [joinB]
theorem joinB_one (x sep : ByteArray) : joinB [x] sep = x := by
  apply ba_ext
  rw [joinB_data, List.map_singleton, Lib.join_one]
theorem joinTail_app (sep : List UInt8) (r s : List (List UInt8)) : Lib.joinTail sep (r ++ s) = Lib.joinTail sep r ++ Lib.joinTail sep s := by simp [Lib.joinTail]
theorem joinB_snoc {xs : List ByteArray} (h : 0 < xs.length) (y sep : ByteArray) : joinB (xs ++ [y]) sep = joinB xs sep ++ (sep ++ y) := by
  apply ba_ext
  cases xs with
  | nil => simp at h
  | cons x r =>
    rw [ba_app, ba_app, joinB_data, joinB_data, List.cons_append, List.map_cons, List.map_cons, Lib.join_cons, Lib.join_cons, List.map_append, joinTail_app, List.append_assoc]
    simp [Lib.joinTail]
theorem numsT_one {l : List Int} (h : 0 < l.length) (sep : ByteArray) : numsT sep (l.take 1) = tx (Lib.itoa (el l 0)) := by
  rw [numsT, show (1 : Nat) = 0 + 1 from rfl, numBs_succ h]
  exact joinB_one _ _
theorem numsT_succ {l : List Int} {k : Nat} (h0 : 0 < k) (h : k < l.length) (sep : ByteArray) : numsT sep (l.take (k + 1)) = numsT sep (l.take k) ++ (sep ++ tx (Lib.itoa (el l k))) := by
  rw [numsT, numBs_succ h, joinB_snoc (by rw [numBs_len, List.length_take]; omega)]; rfl
set_option maxHeartbeats 400000 in
theorem l13Kinds_is (w : World) : Calls Tryd.prog 27 #[] w fun e w' => ∃ q, e = .returned (.slice (some ⟨q, 0, none⟩) 5 5) ∧ (q < w'.heap.size ∧ w.heap.size ≤ q ∧ ∀ j : Nat, j < 5 → w'.cell? ⟨q, j, none⟩ = some (.string (wordB (j : Int)))) ∧ Below w.heap.size w w' := by
  go_enter Tryd.func27, Tryd.ntmps27
  go_wp2
  go_ret
  refine ⟨_, rfl, ?_, below1 _ _⟩
  have X := Bx.new (w := w) [.string ⟨#[]⟩, .string ⟨#[109, 97, 112]⟩, .string ⟨#[102, 105, 108, 116, 101, 114]⟩, .string ⟨#[101, 120, 112, 97, 110, 100]⟩, .string ⟨#[112, 111, 105, 115, 111, 110]⟩] 9 rfl
  refine ⟨X.size, Nat.le_refl _, fun j hj => ?_⟩
  rcases (show j = 0 ∨ j = 1 ∨ j = 2 ∨ j = 3 ∨ j = 4 from by omega) with rfl | rfl | rfl | rfl | rfl
  · exact X.c 0 rfl
  · exact X.c 1 rfl
  · exact X.c 2 rfl
  · exact X.c 3 rfl
  · exact X.c 4 rfl
/-- The text as the specification puts it together. -/
theorem nodeB_sum (nm : ByteArray) (kd sa sb cp : Int) (nx : List Int) :
    nodeB nm kd sa sb cp nx = (((((((((((⟨#[110, 111, 100, 101, 32]⟩ ++ nm) ++ ⟨#[32]⟩) ++ wordB kd) ++ ⟨#[58]⟩) ++ tx (Lib.itoa sa)) ++ ⟨#[58]⟩) ++ tx (Lib.itoa sb)) ++ ⟨#[32]⟩) ++ tx (Lib.itoa cp)) ++ ⟨#[32]⟩) ++ nextT nx) := by
  apply ba_ext
  simp only [nodeB, stageT, numsT, numBs, ba_app, joinB_data, List.map_cons, List.map_nil, Lib.join_cons, Lib.joinTail, List.flatten_cons, List.flatten_nil, List.append_nil, List.append_assoc]
  simp
/-- The text of the first k that a node leads to. -/
def nextK (nx : List Int) (k : Nat) : ByteArray := if k = 0 then ⟨#[45]⟩ else numsT ⟨#[44]⟩ (nx.take k)
theorem nextK_all (nx : List Int) : nextK nx nx.length = nextT nx := by rw [nextK, nextT, List.take_length]
theorem nextK_size {nx : List Int} (h : nx.length ≤ 20) (h6 : Ints64 nx) (k : Nat) (hk : k ≤ nx.length) : (nextK nx k).size ≤ 462 := by
  by_cases h0 : k = 0
  · rw [nextK, if_pos h0]; decide
  · have hl : (nx.take k).length = k := by rw [List.length_take]; omega
    have := nextT_size (nx := nx.take k) (by omega) fun x hx => h6 x (List.mem_of_mem_take hx)
    rw [nextT, if_neg (by omega)] at this
    rw [nextK, if_neg h0]; exact this
set_option maxRecDepth 10000 in
set_option maxHeartbeats 8000000 in
theorem l13Node_is (nm : ByteArray) (kd sa sb cp : Int) (nxo : Option Addr) (nxc : Nat) (nx : List Int) (w : World) (hH : HasT nm kd sa sb cp nx) (hz : InNode w.heap.size w nxo nx) :
    Calls Tryd.prog 16 #[.agg #[.string nm, .int .i64 kd, .int .i64 sa, .int .i64 sb, .int .i64 cp, .slice nxo nx.length nxc]] w fun e w' => e = .returned (.string (nodeB nm kd sa sb cp nx)) ∧ Below w.heap.size w w' := by
  obtain ⟨j, hj1, hj5, hkd⟩ := hH.kin
  subst hkd
  have h3 := hH.i3
  have hlen := hH.len
  have hnm := hH.nam
  have HK := hid (fun k (hk : k ≤ nx.length) => nextK_size hH.len hH.i64 k hk)
  have H64 := hid hH.i64
  have hi1 := hH.i1
  have hi2 := hH.i2
  have hB0 := below1 w (.cells #[.string nm, .int .i64 (j : Int), .int .i64 sa, .int .i64 sb, .int .i64 cp, .slice nxo nx.length nxc] 32)
  have X0 := hid (Bx.new (w := w) [.string nm, .int .i64 (j : Int), .int .i64 sa, .int .i64 sb, .int .i64 cp, .slice nxo nx.length nxc] 32 rfl)
  obtain ⟨V, hV⟩ : ∃ V, V = w.alloc (.cells #[.string nm, .int .i64 (j : Int), .int .i64 sa, .int .i64 sb, .int .i64 cp, .slice nxo nx.length nxc] 32) := ⟨_, rfl⟩
  have HZ := hid (Kind.In.later hz hB0)
  rw [← hV] at hB0 X0 HZ
  have x5 := X0.out.c 5 rfl
  have hxs := X0.out.size
  clear hH hz
  go_enter Tryd.func16, Tryd.ntmps16
  go_wp2
  rw [← hV]
  clear hV
  go_loopw [3, 9] (fun u i wr => ∃ k : Nat, k ≤ nx.length ∧ u = .string (nextK nx k) ∧ i = .int .i64 (k : Int) ∧ Below V.heap.size V wr) (fun _ i _ => nx.length - (intOf i).toNat)
  case atStart => exact ⟨0, Nat.zero_le _, rfl, rfl, Below.refl _ _⟩
  case round =>
    obtain ⟨k, hk, rfl, rfl, hB⟩ := hrel
    by_cases hlt : k < nx.length
    · obtain ⟨b, off, rfl, hb, hc⟩ := ints_at HZ.out hlt
      have d1 := (hB.cell (p := ⟨b, off + k, none⟩) hb).trans (hc k hlt)
      have h6 := H64.out _ (el_mem hlt)
      have hit := num_any (el nx k) h6.1 h6.2 wr
      have hts : (tx (Lib.itoa (el nx k))).size ≤ 21 := by rw [tx_size]; exact itoa_short _ h6.1 h6.2
      have hks := HK.out k hk
      by_cases h0 : k = 0
      · have h0' : ((k : Int) == 0) = true := by simp [h0]
        have HN : Hid (nextK nx (k + 1) = tx (Lib.itoa (el nx k))) := by
          rw [Hid, nextK, if_neg (by omega), h0]; exact numsT_one (by omega) _
        generalize tx (Lib.itoa (el nx k)) = t at hit HN hts
        generalize el nx k = x at d1 hit
        have HIT := hid hit
        clear hit hc h6 h0
        go_wp2_with fail
        refine HIT.out.mono ?_
        rintro e w1 ⟨rfl, hb1⟩
        have hB1 := hB.trans (hb1.mono hB.size)
        go_wp2
        go_roundw
        case rel => exact ⟨k + 1, by omega, by rw [HN.out], by go_num, hB1⟩
        case measure => simp [intOf]; omega
      · have h0' : ((k : Int) == 0) = false := by simp [h0]
        have HN : Hid (nextK nx (k + 1) = nextK nx k ++ (⟨#[44]⟩ ++ tx (Lib.itoa (el nx k)))) := by
          rw [Hid, nextK, nextK, if_neg (by omega), if_neg h0]; exact numsT_succ (by omega) hlt _
        generalize tx (Lib.itoa (el nx k)) = t at hit HN hts
        generalize el nx k = x at d1 hit
        have HIT := hid hit
        clear hit hc h6 h0
        generalize nextK nx k = s at hks HN
        go_wp2_with fail
        refine HIT.out.mono ?_
        rintro e w1 ⟨rfl, hb1⟩
        have hB1 := hB.trans (hb1.mono hB.size)
        go_wp2
        go_roundw
        case rel => exact ⟨k + 1, by omega, by rw [HN.out], by go_num, hB1⟩
        case measure => simp [intOf]; omega
    · obtain rfl : k = nx.length := by omega
      have hks := HK.out _ hk
      have HR := hid (nodeB_sum nm (j : Int) sa sb cp nx)
      rw [nextK_all] at hks ⊢
      have hws := wordB_size (j : Int)
      have HN1 := hid (fun W => num_any sa hi1.1 hi1.2 W)
      have HN2 := hid (fun W => num_any sb hi2.1 hi2.2 W)
      have HN3 := hid (fun W => num_any cp (by omega) (by omega) W)
      have s1 : (tx (Lib.itoa sa)).size ≤ 21 := by rw [tx_size]; exact itoa_short _ hi1.1 hi1.2
      have s2 : (tx (Lib.itoa sb)).size ≤ 21 := by rw [tx_size]; exact itoa_short _ hi2.1 hi2.2
      have s3 : (tx (Lib.itoa cp)).size ≤ 21 := by rw [tx_size]; exact itoa_short _ (by omega) (by omega)
      generalize nextT nx = t0 at hks HR ⊢
      generalize tx (Lib.itoa sa) = t1 at HN1 s1 HR
      generalize tx (Lib.itoa sb) = t2 at HN2 s2 HR
      generalize tx (Lib.itoa cp) = t3 at HN3 s3 HR
      have X1 := hid (X0.out.later hB)
      have hB1 := hB0.trans (hB.mono hB0.size)
      have hi0 : (0 : Int) ≤ (j : Int) := by omega
      have hi5 : (j : Int) < 5 := by omega
      clear x5 hB HZ HK H64 X0 hB0
      have HKD := hid l13Kinds_is
      have HWE : Hid (∀ (W : World) (q : Nat), (∀ i : Nat, i < 5 → W.cell? ⟨q, i, none⟩ = some (.string (wordB (i : Int)))) → W.cell? ⟨q, j, none⟩ = some (.string (wordB (j : Int)))) := fun W q h => h j hj5
      generalize wordB (j : Int) = wd at hws HR HWE
      have z5 : (⟨#[110, 111, 100, 101, 32]⟩ : ByteArray).size = 5 := rfl
      have z32 : (⟨#[32]⟩ : ByteArray).size = 1 := rfl
      have z58 : (⟨#[58]⟩ : ByteArray).size = 1 := rfl
      have hc0 : ∀ W, (Op.stringOp .add (⟨#[110, 111, 100, 101, 32]⟩ : ByteArray) nm).run Tryd.prog W = .ok (.string ((⟨#[110, 111, 100, 101, 32]⟩ : ByteArray) ++ nm)) W := fun W => run_string_add_sum W _ _ (by first | omega | (repeat rw [ByteArray.size_append]) <;> omega)
      have hc1 : ∀ W, (Op.stringOp .add ((⟨#[110, 111, 100, 101, 32]⟩ : ByteArray) ++ nm) ⟨#[32]⟩).run Tryd.prog W = .ok (.string (((⟨#[110, 111, 100, 101, 32]⟩ : ByteArray) ++ nm) ++ ⟨#[32]⟩)) W := fun W => run_string_add_sum W _ _ (by first | omega | (repeat rw [ByteArray.size_append]) <;> omega)
      have hc2 : ∀ W, (Op.stringOp .add (((⟨#[110, 111, 100, 101, 32]⟩ : ByteArray) ++ nm) ++ ⟨#[32]⟩) wd).run Tryd.prog W = .ok (.string ((((⟨#[110, 111, 100, 101, 32]⟩ : ByteArray) ++ nm) ++ ⟨#[32]⟩) ++ wd)) W := fun W => run_string_add_sum W _ _ (by first | omega | (repeat rw [ByteArray.size_append]) <;> omega)
      have hc3 : ∀ W, (Op.stringOp .add ((((⟨#[110, 111, 100, 101, 32]⟩ : ByteArray) ++ nm) ++ ⟨#[32]⟩) ++ wd) ⟨#[58]⟩).run Tryd.prog W = .ok (.string (((((⟨#[110, 111, 100, 101, 32]⟩ : ByteArray) ++ nm) ++ ⟨#[32]⟩) ++ wd) ++ ⟨#[58]⟩)) W := fun W => run_string_add_sum W _ _ (by first | omega | (repeat rw [ByteArray.size_append]) <;> omega)
      have hc4 : ∀ W, (Op.stringOp .add (((((⟨#[110, 111, 100, 101, 32]⟩ : ByteArray) ++ nm) ++ ⟨#[32]⟩) ++ wd) ++ ⟨#[58]⟩) t1).run Tryd.prog W = .ok (.string ((((((⟨#[110, 111, 100, 101, 32]⟩ : ByteArray) ++ nm) ++ ⟨#[32]⟩) ++ wd) ++ ⟨#[58]⟩) ++ t1)) W := fun W => run_string_add_sum W _ _ (by first | omega | (repeat rw [ByteArray.size_append]) <;> omega)
      have hc5 : ∀ W, (Op.stringOp .add ((((((⟨#[110, 111, 100, 101, 32]⟩ : ByteArray) ++ nm) ++ ⟨#[32]⟩) ++ wd) ++ ⟨#[58]⟩) ++ t1) ⟨#[58]⟩).run Tryd.prog W = .ok (.string (((((((⟨#[110, 111, 100, 101, 32]⟩ : ByteArray) ++ nm) ++ ⟨#[32]⟩) ++ wd) ++ ⟨#[58]⟩) ++ t1) ++ ⟨#[58]⟩)) W := fun W => run_string_add_sum W _ _ (by first | omega | (repeat rw [ByteArray.size_append]) <;> omega)
      have hc6 : ∀ W, (Op.stringOp .add (((((((⟨#[110, 111, 100, 101, 32]⟩ : ByteArray) ++ nm) ++ ⟨#[32]⟩) ++ wd) ++ ⟨#[58]⟩) ++ t1) ++ ⟨#[58]⟩) t2).run Tryd.prog W = .ok (.string ((((((((⟨#[110, 111, 100, 101, 32]⟩ : ByteArray) ++ nm) ++ ⟨#[32]⟩) ++ wd) ++ ⟨#[58]⟩) ++ t1) ++ ⟨#[58]⟩) ++ t2)) W := fun W => run_string_add_sum W _ _ (by first | omega | (repeat rw [ByteArray.size_append]) <;> omega)
      have hc7 : ∀ W, (Op.stringOp .add ((((((((⟨#[110, 111, 100, 101, 32]⟩ : ByteArray) ++ nm) ++ ⟨#[32]⟩) ++ wd) ++ ⟨#[58]⟩) ++ t1) ++ ⟨#[58]⟩) ++ t2) ⟨#[32]⟩).run Tryd.prog W = .ok (.string (((((((((⟨#[110, 111, 100, 101, 32]⟩ : ByteArray) ++ nm) ++ ⟨#[32]⟩) ++ wd) ++ ⟨#[58]⟩) ++ t1) ++ ⟨#[58]⟩) ++ t2) ++ ⟨#[32]⟩)) W := fun W => run_string_add_sum W _ _ (by first | omega | (repeat rw [ByteArray.size_append]) <;> omega)
      have hc8 : ∀ W, (Op.stringOp .add (((((((((⟨#[110, 111, 100, 101, 32]⟩ : ByteArray) ++ nm) ++ ⟨#[32]⟩) ++ wd) ++ ⟨#[58]⟩) ++ t1) ++ ⟨#[58]⟩) ++ t2) ++ ⟨#[32]⟩) t3).run Tryd.prog W = .ok (.string ((((((((((⟨#[110, 111, 100, 101, 32]⟩ : ByteArray) ++ nm) ++ ⟨#[32]⟩) ++ wd) ++ ⟨#[58]⟩) ++ t1) ++ ⟨#[58]⟩) ++ t2) ++ ⟨#[32]⟩) ++ t3)) W := fun W => run_string_add_sum W _ _ (by first | omega | (repeat rw [ByteArray.size_append]) <;> omega)
      have hc9 : ∀ W, (Op.stringOp .add ((((((((((⟨#[110, 111, 100, 101, 32]⟩ : ByteArray) ++ nm) ++ ⟨#[32]⟩) ++ wd) ++ ⟨#[58]⟩) ++ t1) ++ ⟨#[58]⟩) ++ t2) ++ ⟨#[32]⟩) ++ t3) ⟨#[32]⟩).run Tryd.prog W = .ok (.string (((((((((((⟨#[110, 111, 100, 101, 32]⟩ : ByteArray) ++ nm) ++ ⟨#[32]⟩) ++ wd) ++ ⟨#[58]⟩) ++ t1) ++ ⟨#[58]⟩) ++ t2) ++ ⟨#[32]⟩) ++ t3) ++ ⟨#[32]⟩)) W := fun W => run_string_add_sum W _ _ (by first | omega | (repeat rw [ByteArray.size_append]) <;> omega)
      have hc10 : ∀ W, (Op.stringOp .add (((((((((((⟨#[110, 111, 100, 101, 32]⟩ : ByteArray) ++ nm) ++ ⟨#[32]⟩) ++ wd) ++ ⟨#[58]⟩) ++ t1) ++ ⟨#[58]⟩) ++ t2) ++ ⟨#[32]⟩) ++ t3) ++ ⟨#[32]⟩) t0).run Tryd.prog W = .ok (.string ((((((((((((⟨#[110, 111, 100, 101, 32]⟩ : ByteArray) ++ nm) ++ ⟨#[32]⟩) ++ wd) ++ ⟨#[58]⟩) ++ t1) ++ ⟨#[58]⟩) ++ t2) ++ ⟨#[32]⟩) ++ t3) ++ ⟨#[32]⟩) ++ t0)) W := fun W => run_string_add_sum W _ _ (by first | omega | (repeat rw [ByteArray.size_append]) <;> omega)
      clear z5 z32 z58
      have hB1d := hB1.drew
      go_wp2
      refine wp_walks (zl := []) (S := fun Y => Y.cell? ⟨w.heap.size, 0, none⟩ = some (.string nm) ∧ Y.cell? ⟨w.heap.size, 1, none⟩ = some (.int .i64 (j : Int)) ∧ Y.cell? ⟨w.heap.size, 2, none⟩ = some (.int .i64 sa) ∧ Y.cell? ⟨w.heap.size, 3, none⟩ = some (.int .i64 sb) ∧ Y.cell? ⟨w.heap.size, 4, none⟩ = some (.int .i64 cp)) (by kernel_rfl) ⟨X1.out.drew.c 0 rfl, X1.out.drew.c 1 rfl, X1.out.drew.c 2 rfl, X1.out.drew.c 3 rfl, X1.out.drew.c 4 rfl⟩ (fun hH => ?_)
      refine Walks.take (i := 0) (v := ?va0) rfl (by kernel_rfl) (by kernel_rfl) (fun _ _ _ h => h) _ _ _ _ (by kernel_rfl) (by kernel_rfl) (Or.inl ⟨by rfl, ?hya0⟩) hH ?resta0
      case hya0 => (intro w' hSw; (try dsimp only at hSw); go_simp <;> with_reducible rfl)
      refine Walks.take (i := 1) (v := ?va1) rfl (by kernel_rfl) (by kernel_rfl) (fun _ _ _ h => h) _ _ _ _ (by kernel_rfl) (by kernel_rfl) (Or.inl ⟨by rfl, ?hya1⟩) hH ?resta1
      case hya1 => (intro w' hSw; (try dsimp only at hSw); go_simp <;> with_reducible rfl)
      refine Walks.take (i := 2) (v := ?va2) rfl (by kernel_rfl) (by kernel_rfl) (fun _ _ _ h => h) _ _ _ _ (by kernel_rfl) (by kernel_rfl) (Or.inl ⟨by rfl, ?hya2⟩) hH ?resta2
      case hya2 => (intro w' hSw; (try dsimp only at hSw); go_simp <;> with_reducible rfl)
      refine Walks.take (i := 3) (v := ?va3) rfl (by kernel_rfl) (by kernel_rfl) (fun _ _ _ h => h) _ _ _ _ (by kernel_rfl) (by kernel_rfl) (Or.inl ⟨by rfl, ?hya3⟩) hH ?resta3
      case hya3 => (intro w' hSw; (try dsimp only at hSw); go_simp <;> with_reducible rfl)
      refine Walks.take (i := 5) (v := ?va5) rfl (by kernel_rfl) (by kernel_rfl) (fun _ _ _ h => h) _ _ _ _ (by kernel_rfl) (by kernel_rfl) (Or.inl ⟨by rfl, ?hya5⟩) hH ?resta5
      case hya5 => (intro w' hSw; (try dsimp only at hSw); go_simp <;> with_reducible rfl)
      refine Walks.take (i := 6) (v := ?va6) rfl (by kernel_rfl) (by kernel_rfl) (fun _ _ _ h => h) _ _ _ _ (by kernel_rfl) (by kernel_rfl) (Or.inl ⟨by rfl, ?hya6⟩) hH ?resta6
      case hya6 => (intro w' hSw; (try dsimp only at hSw); go_simp <;> with_reducible rfl)
      refine Walks.take (i := 7) (v := ?va7) rfl (by kernel_rfl) (by kernel_rfl) (fun _ _ _ h => h) _ _ _ _ (by kernel_rfl) (by kernel_rfl) (Or.inl ⟨by rfl, ?hya7⟩) hH ?resta7
      case hya7 => (intro w' hSw; (try dsimp only at hSw); go_simp <;> with_reducible rfl)
      refine Walks.take (i := 12) (v := ?va12) rfl (by kernel_rfl) (by kernel_rfl) (fun _ _ _ h => h) _ _ _ _ (by kernel_rfl) (by kernel_rfl) (Or.inl ⟨by rfl, ?hya12⟩) hH ?resta12
      case hya12 => (intro w' hSw; (try dsimp only at hSw); go_simp <;> with_reducible rfl)
      refine Walks.take (i := 13) (v := ?va13) rfl (by kernel_rfl) (by kernel_rfl) (fun _ _ _ h => h) _ _ _ _ (by kernel_rfl) (by kernel_rfl) (Or.inl ⟨by rfl, ?hya13⟩) hH ?resta13
      case hya13 => (intro w' hSw; (try dsimp only at hSw); go_simp <;> with_reducible rfl)
      refine Walks.take (i := 14) (v := ?va14) rfl (by kernel_rfl) (by kernel_rfl) (fun _ _ _ h => h) _ _ _ _ (by kernel_rfl) (by kernel_rfl) (Or.inl ⟨by rfl, ?hya14⟩) hH ?resta14
      case hya14 => (intro w' hSw; (try dsimp only at hSw); go_simp <;> with_reducible rfl)
      refine Walks.take (i := 18) (v := ?va18) rfl (by kernel_rfl) (by kernel_rfl) (fun _ _ _ h => h) _ _ _ _ (by kernel_rfl) (by kernel_rfl) (Or.inl ⟨by rfl, ?hya18⟩) hH ?resta18
      case hya18 => (intro w' hSw; (try dsimp only at hSw); go_simp <;> with_reducible rfl)
      refine Walks.take (i := 19) (v := ?va19) rfl (by kernel_rfl) (by kernel_rfl) (fun _ _ _ h => h) _ _ _ _ (by kernel_rfl) (by kernel_rfl) (Or.inl ⟨by rfl, ?hya19⟩) hH ?resta19
      case hya19 => (intro w' hSw; (try dsimp only at hSw); go_simp <;> with_reducible rfl)
      refine Walks.take (i := 20) (v := ?va20) rfl (by kernel_rfl) (by kernel_rfl) (fun _ _ _ h => h) _ _ _ _ (by kernel_rfl) (by kernel_rfl) (Or.inl ⟨by rfl, ?hya20⟩) hH ?resta20
      case hya20 => (intro w' hSw; (try dsimp only at hSw); go_simp <;> with_reducible rfl)
      refine Walks.take (i := 24) (v := ?va24) rfl (by kernel_rfl) (by kernel_rfl) (fun _ _ _ h => h) _ _ _ _ (by kernel_rfl) (by kernel_rfl) (Or.inl ⟨by rfl, ?hya24⟩) hH ?resta24
      case hya24 => (intro w' hSw; (try dsimp only at hSw); go_simp <;> with_reducible rfl)
      refine Walks.take (i := 25) (v := ?va25) rfl (by kernel_rfl) (by kernel_rfl) (fun _ _ _ h => h) _ _ _ _ (by kernel_rfl) (by kernel_rfl) (Or.inl ⟨by rfl, ?hya25⟩) hH ?resta25
      case hya25 => (intro w' hSw; (try dsimp only at hSw); go_simp <;> with_reducible rfl)
      refine Walks.take (i := 29) (v := ?va29) rfl (by kernel_rfl) (by kernel_rfl) (fun _ _ _ h => h) _ _ _ _ (by kernel_rfl) (by kernel_rfl) (Or.inl ⟨by rfl, ?hya29⟩) hH ?resta29
      case hya29 => (intro w' hSw; (try dsimp only at hSw); go_simp <;> with_reducible rfl)
      refine Walks.one (i := 4) (o := _) (by kernel_rfl) rfl (fun K hK => ?_)
      go_simp
      refine (HKD.out _).mono ?_
      rintro e w2 ⟨q, rfl, ⟨hq2, hq0, hqc⟩, hb2⟩
      have hB2 := hB1d.trans (hb2.mono hB1d.size)
      have X2 := hid (X1.out.drew.later hb2)
      have K2 : w2.cell? ⟨q, j, none⟩ = some (.string wd) := HWE.out w2 q hqc
      have hH2 : (w2.cell? ⟨w.heap.size, 0, none⟩ = some (.string nm) ∧ w2.cell? ⟨w.heap.size, 1, none⟩ = some (.int .i64 (j : Int)) ∧ w2.cell? ⟨w.heap.size, 2, none⟩ = some (.int .i64 sa) ∧ w2.cell? ⟨w.heap.size, 3, none⟩ = some (.int .i64 sb) ∧ w2.cell? ⟨w.heap.size, 4, none⟩ = some (.int .i64 cp)) ∧ w2.cell? ⟨q, j, none⟩ = some (.string wd) := ⟨⟨X2.out.c 0 rfl, X2.out.c 1 rfl, X2.out.c 2 rfl, X2.out.c 3 rfl, X2.out.c 4 rfl⟩, K2⟩
      clear hb2 hqc hq0
      refine hK.out _ _ (fun _ => hH2.1) (fun _ => ?_)
      clear hK K
      refine Walks.weaken (S' := fun Y => (Y.cell? ⟨w.heap.size, 0, none⟩ = some (.string nm) ∧ Y.cell? ⟨w.heap.size, 1, none⟩ = some (.int .i64 (j : Int)) ∧ Y.cell? ⟨w.heap.size, 2, none⟩ = some (.int .i64 sa) ∧ Y.cell? ⟨w.heap.size, 3, none⟩ = some (.int .i64 sb) ∧ Y.cell? ⟨w.heap.size, 4, none⟩ = some (.int .i64 cp)) ∧ Y.cell? ⟨q, j, none⟩ = some (.string wd)) (fun _ h => h.1) ?_
      refine Walks.take (i := 8) (v := ?vb8) rfl (by kernel_rfl) (by kernel_rfl) (fun _ _ _ h => h) _ _ _ _ (by kernel_rfl) (by kernel_rfl) (Or.inl ⟨by rfl, ?hyb8⟩) hH2 ?restb8
      case hyb8 => (intro w' hSw; (try dsimp only at hSw); go_simp <;> with_reducible rfl)
      refine Walks.take (i := 9) (v := ?vb9) rfl (by kernel_rfl) (by kernel_rfl) (fun _ _ _ h => h) _ _ _ _ (by kernel_rfl) (by kernel_rfl) (Or.inl ⟨by rfl, ?hyb9⟩) hH2 ?restb9
      case hyb9 => (intro w' hSw; (try dsimp only at hSw); go_simp <;> with_reducible rfl)
      refine Walks.take (i := 10) (v := ?vb10) rfl (by kernel_rfl) (by kernel_rfl) (fun _ _ _ h => h) _ _ _ _ (by kernel_rfl) (by kernel_rfl) (Or.inl ⟨by rfl, ?hyb10⟩) hH2 ?restb10
      case hyb10 => (intro w' hSw; (try dsimp only at hSw); go_simp <;> with_reducible rfl)
      refine Walks.take (i := 11) (v := ?vb11) rfl (by kernel_rfl) (by kernel_rfl) (fun _ _ _ h => h) _ _ _ _ (by kernel_rfl) (by kernel_rfl) (Or.inl ⟨by rfl, ?hyb11⟩) hH2 ?restb11
      case hyb11 => (intro w' hSw; (try dsimp only at hSw); go_simp <;> with_reducible rfl)
      refine Walks.one (i := 15) (o := _) (by kernel_rfl) rfl (fun K hK => ?_)
      go_simp
      refine (HN1.out _).mono ?_
      rintro e w3 ⟨rfl, hb3⟩
      have hB3 := hB2.trans (hb3.mono hB2.size)
      have X3 := hid (X2.out.later hb3)
      have K3 : w3.cell? ⟨q, j, none⟩ = some (.string wd) := (hb3.cell (p := ⟨q, j, none⟩) (by dsimp only; omega)).trans K2
      have hq3 : q < w3.heap.size := (by have := hb3.size; omega)
      have hH3 : (w3.cell? ⟨w.heap.size, 0, none⟩ = some (.string nm) ∧ w3.cell? ⟨w.heap.size, 1, none⟩ = some (.int .i64 (j : Int)) ∧ w3.cell? ⟨w.heap.size, 2, none⟩ = some (.int .i64 sa) ∧ w3.cell? ⟨w.heap.size, 3, none⟩ = some (.int .i64 sb) ∧ w3.cell? ⟨w.heap.size, 4, none⟩ = some (.int .i64 cp)) ∧ w3.cell? ⟨q, j, none⟩ = some (.string wd) := ⟨⟨X3.out.c 0 rfl, X3.out.c 1 rfl, X3.out.c 2 rfl, X3.out.c 3 rfl, X3.out.c 4 rfl⟩, K3⟩
      clear hb3
      refine hK.out _ _ (fun _ => hH3) (fun _ => ?_)
      clear hK K
      refine Walks.take (i := 16) (v := ?vc16) rfl (by kernel_rfl) (by kernel_rfl) (fun _ _ _ h => h) _ _ _ _ (by kernel_rfl) (by kernel_rfl) (Or.inl ⟨by rfl, ?hyc16⟩) hH3 ?restc16
      case hyc16 => (intro w' hSw; (try dsimp only at hSw); go_simp <;> with_reducible rfl)
      refine Walks.take (i := 17) (v := ?vc17) rfl (by kernel_rfl) (by kernel_rfl) (fun _ _ _ h => h) _ _ _ _ (by kernel_rfl) (by kernel_rfl) (Or.inl ⟨by rfl, ?hyc17⟩) hH3 ?restc17
      case hyc17 => (intro w' hSw; (try dsimp only at hSw); go_simp <;> with_reducible rfl)
      refine Walks.one (i := 21) (o := _) (by kernel_rfl) rfl (fun K hK => ?_)
      go_simp
      refine (HN2.out _).mono ?_
      rintro e w4 ⟨rfl, hb4⟩
      have hB4 := hB3.trans (hb4.mono hB3.size)
      have X4 := hid (X3.out.later hb4)
      have K4 : w4.cell? ⟨q, j, none⟩ = some (.string wd) := (hb4.cell (p := ⟨q, j, none⟩) (by dsimp only; omega)).trans K3
      have hq4 : q < w4.heap.size := (by have := hb4.size; omega)
      have hH4 : (w4.cell? ⟨w.heap.size, 0, none⟩ = some (.string nm) ∧ w4.cell? ⟨w.heap.size, 1, none⟩ = some (.int .i64 (j : Int)) ∧ w4.cell? ⟨w.heap.size, 2, none⟩ = some (.int .i64 sa) ∧ w4.cell? ⟨w.heap.size, 3, none⟩ = some (.int .i64 sb) ∧ w4.cell? ⟨w.heap.size, 4, none⟩ = some (.int .i64 cp)) ∧ w4.cell? ⟨q, j, none⟩ = some (.string wd) := ⟨⟨X4.out.c 0 rfl, X4.out.c 1 rfl, X4.out.c 2 rfl, X4.out.c 3 rfl, X4.out.c 4 rfl⟩, K4⟩
      clear hb4
      refine hK.out _ _ (fun _ => hH4) (fun _ => ?_)
      clear hK K
      refine Walks.take (i := 22) (v := ?vd22) rfl (by kernel_rfl) (by kernel_rfl) (fun _ _ _ h => h) _ _ _ _ (by kernel_rfl) (by kernel_rfl) (Or.inl ⟨by rfl, ?hyd22⟩) hH4 ?restd22
      case hyd22 => (intro w' hSw; (try dsimp only at hSw); go_simp <;> with_reducible rfl)
      refine Walks.take (i := 23) (v := ?vd23) rfl (by kernel_rfl) (by kernel_rfl) (fun _ _ _ h => h) _ _ _ _ (by kernel_rfl) (by kernel_rfl) (Or.inl ⟨by rfl, ?hyd23⟩) hH4 ?restd23
      case hyd23 => (intro w' hSw; (try dsimp only at hSw); go_simp <;> with_reducible rfl)
      refine Walks.one (i := 26) (o := _) (by kernel_rfl) rfl (fun K hK => ?_)
      go_simp
      refine (HN3.out _).mono ?_
      rintro e w5 ⟨rfl, hb5⟩
      have hB5 := hB4.trans (hb5.mono hB4.size)
      have X5 := hid (X4.out.later hb5)
      have K5 : w5.cell? ⟨q, j, none⟩ = some (.string wd) := (hb5.cell (p := ⟨q, j, none⟩) (by dsimp only; omega)).trans K4
      have hq5 : q < w5.heap.size := (by have := hb5.size; omega)
      have hH5 : (w5.cell? ⟨w.heap.size, 0, none⟩ = some (.string nm) ∧ w5.cell? ⟨w.heap.size, 1, none⟩ = some (.int .i64 (j : Int)) ∧ w5.cell? ⟨w.heap.size, 2, none⟩ = some (.int .i64 sa) ∧ w5.cell? ⟨w.heap.size, 3, none⟩ = some (.int .i64 sb) ∧ w5.cell? ⟨w.heap.size, 4, none⟩ = some (.int .i64 cp)) ∧ w5.cell? ⟨q, j, none⟩ = some (.string wd) := ⟨⟨X5.out.c 0 rfl, X5.out.c 1 rfl, X5.out.c 2 rfl, X5.out.c 3 rfl, X5.out.c 4 rfl⟩, K5⟩
      clear hb5
      refine hK.out _ _ (fun _ => hH5) (fun _ => ?_)
      clear hK K
      refine Walks.take (i := 27) (v := ?ve27) rfl (by kernel_rfl) (by kernel_rfl) (fun _ _ _ h => h) _ _ _ _ (by kernel_rfl) (by kernel_rfl) (Or.inl ⟨by rfl, ?hye27⟩) hH5 ?reste27
      case hye27 => (intro w' hSw; (try dsimp only at hSw); go_simp <;> with_reducible rfl)
      refine Walks.take (i := 28) (v := ?ve28) rfl (by kernel_rfl) (by kernel_rfl) (fun _ _ _ h => h) _ _ _ _ (by kernel_rfl) (by kernel_rfl) (Or.inl ⟨by rfl, ?hye28⟩) hH5 ?reste28
      case hye28 => (intro w' hSw; (try dsimp only at hSw); go_simp <;> with_reducible rfl)
      refine Walks.take (i := 30) (v := ?ve30) rfl (by kernel_rfl) (by kernel_rfl) (fun _ _ _ h => h) _ _ _ _ (by kernel_rfl) (by kernel_rfl) (Or.inl ⟨by rfl, ?hye30⟩) hH5 ?reste30
      case hye30 => (intro w' hSw; (try dsimp only at hSw); go_simp <;> with_reducible rfl)
      refine Walks.one (i := 31) (o := _) (by kernel_rfl) rfl (fun K hK => ?_)
      go_simp
      refine hK.out _ _ (fun _ => hH5) (fun _ => ?_)
      clear hK K
      refine Walks.done (by kernel_rfl) ?_ _
      go_wp2
      go_ret
      exact ⟨by rw [HR.out]; rfl, hB5⟩
set_option maxRecDepth 10000 in
set_option maxHeartbeats 4000000 in
theorem specNodeText_is (nm : ByteArray) (kd sa sb cp : Int) (nxo : Option Addr) (nxc : Nat) (nx : List Int) (w : World) (hs : nm.size ≤ 9223372036854775807) (hl : nx.length ≤ 1048576) (hz : InNode w.heap.size w nxo nx) :
    Calls Tryd.prog 6 #[.agg #[.string nm, .int .i64 kd, .int .i64 sa, .int .i64 sb, .int .i64 cp, .slice nxo nx.length nxc]] w fun e w' => e = .returned (.tuple #[.string (nodeR nm kd sa sb cp nx).1, .bool (nodeR nm kd sa sb cp nx).2]) ∧ Below w.heap.size w w' := by
  have hB0 := below1 w (.cells #[.string nm, .int .i64 kd, .int .i64 sa, .int .i64 sb, .int .i64 cp, .slice nxo nx.length nxc] 32)
  have X0 := hid (Bx.new (w := w) [.string nm, .int .i64 kd, .int .i64 sa, .int .i64 sb, .int .i64 cp, .slice nxo nx.length nxc] 32 rfl)
  have hcon := l13Good_is nm kd sa sb cp nxo nxc nx _ hs (by omega) (Kind.In.later hz hB0)
  unfold nodeR
  cases hh : hasT nm kd sa sb cp nx
  · rw [if_neg (by simp)]
    rw [hh] at hcon
    have HC := hid hcon
    clear hcon
    go_enter Tryd.func6, Tryd.ntmps6
    go_wp2_with fail
    refine HC.out.mono ?_
    rintro e w1 ⟨rfl, hb1⟩
    have hB1 := hB0.trans (hb1.mono hB0.size)
    go_wp2
    exact bodyPost_ret (v := .tuple #[.string ⟨#[]⟩, .bool false]) (by simp [results, Tryd.results6, go_sem]) rfl ⟨rfl, hB1⟩
  rw [if_pos rfl]
  rw [hh] at hcon
  have HC := hid hcon
  have hH := hasT_has hh
  have HN := hid (fun W h => l13Node_is nm kd sa sb cp nxo nxc nx W hH h)
  have HZ := hid hz
  clear hcon hz hH hh
  go_enter Tryd.func6, Tryd.ntmps6
  go_wp2_with fail
  refine HC.out.mono ?_
  rintro e w1 ⟨rfl, hb1⟩
  have hB1 := hB0.trans (hb1.mono hB0.size)
  have X1 := X0.out.later hb1
  have x0 := X1.c 0 rfl
  have x1 := X1.c 1 rfl
  have x2 := X1.c 2 rfl
  have x3 := X1.c 3 rfl
  have x4 := X1.c 4 rfl
  have x5 := X1.c 5 rfl
  clear hb1 X0 hB0 HC X1
  go_wp2_with fail
  refine (HN.out _ (Kind.In.later HZ.out hB1)).mono ?_
  rintro e w2 ⟨rfl, hb2⟩
  have hB2 := hB1.trans (hb2.mono hB1.size)
  go_wp2
  exact bodyPost_ret (v := .tuple #[.string (nodeB nm kd sa sb cp nx), .bool true]) (by simp [results, Tryd.results6, go_sem]) rfl ⟨rfl, hB2⟩
end Go.Proofs.YtekadjjofcicaaaDoor
