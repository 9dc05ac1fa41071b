
/- The program's copies of timers and of clocks, and both looks for an id. No conditions but those written. -/
import Derived.Test.YtpbgkkemaioidaaODa
import Derived.Deep.RegionWith
namespace Go.Proofs.Ytpbgkkemaioidaa.Old
open Go.RowKit

theorem run_copy_rows {P : Program} (w : World) (dT sT ty elem : TypeId) (g dLen dCap : Nat) (a : Addr) (sLen sCap : Nat) (cur : Array Value) (t : TypeId) (cs : List Value) (sz n : Nat)
    (hu : P.underlying dT = some (.slice elem)) (hs : (P.info? elem).map (·.size) = some sz) (hg : w.heap[g]? = some (.cells cur t (0, 0))) (hnm : Nat.min sLen dLen = n) (hn : cs.length = n * sz)
    (hsrc : ∀ j v, cs[j]? = some v → w.cell? (a.add j) = some v) (hfit : cs.length = cur.size) (h1 : ∀ v ∈ cs, v.oneCell' = true) :
    (Builtin.copy_ #[dT, sT] ty #[.slice (some ⟨g, 0, none⟩) dLen dCap, .slice (some a) sLen sCap]).run P w = .ok (goInt n) (w.setRow g cs.toArray) := by
  have hl := run_loadCells_list (P := P) w a cs hsrc
  have hst := run_storeCells_at P g 0 t cs 0 cur w hg (by omega) h1
  have e : cur.toList.drop cs.length = [] := List.drop_eq_nil_of_le (by simp [hfit])
  cases hq : P.info? elem with
  | none => simp [hq] at hs
  | some i =>
    have hi : i.size = sz := by simpa [hq] using hs
    simp only [Nat.zero_add, e, List.take_zero, List.nil_append, List.append_nil] at hst
    simp [Builtin.copy_, run_underlying hu, Builtin.lenOf, Builtin.firstCells, sizeOf, typeInfo, hq, hi, hnm, ← hn, hl, hst]

theorem Try.size49 : (Try.prog.info? 49).map (·.size) = some 3 := by kernel_rfl
theorem owns_open {w : World} {base : Nat} {e : TypeId} {size : Nat} {g n cap : Nat} {xs : List Value} (h : w.ownsRow base e size (.slice (some ⟨g, 0, none⟩) n cap) n xs) :
    ∃ cur : List Value, w.heap[g]? = some (.cells cur.toArray e (0, 0)) ∧ cur.length = cap * size ∧ base ≤ g ∧ n ≤ cap ∧ cap ≤ maxLen := by
  rcases h.2 with ⟨h', _⟩ | ⟨g', cap', cur, h', hb, hg, h1, h2, h3, h4⟩
  · simp at h'
  · simp only [Value.slice.injEq, Option.some.injEq, Addr.mk.injEq, and_true, true_and] at h'
    obtain ⟨rfl, rfl⟩ := h'
    exact ⟨cur.toList, by simpa using hg, by simpa using h3, hb, h1, h2⟩

/-- The cells of a list of timers. -/
def tcells : List T3 → List Value
  | [] => []
  | t :: r => .int .i64 t.1 :: .int .i64 t.2.1 :: .int .i64 t.2.2 :: tcells r
theorem tcells_len : ∀ ts : List T3, (tcells ts).length = ts.length * 3
  | [] => rfl
  | t :: r => by simp [tcells, tcells_len r]; omega
theorem t3_succ (t : T3) (r : List T3) (j : Nat) : t3 (t :: r) (j + 1) = t3 r j := by simp [t3]
theorem tcells_at : ∀ ts : List T3, Cells3 (tcells ts) ts
  | [], j, h => by simp at h
  | t :: r, 0, _ => by simp [tcells, t3]
  | t :: r, j + 1, h => by
    have := tcells_at r j (by simpa using h)
    rw [show (j + 1) * 3 = j * 3 + 1 + 1 + 1 from by omega, t3_succ]
    simpa [tcells] using this
theorem tcells_one : ∀ (ts : List T3) (v : Value), v ∈ tcells ts → v.oneCell' = true
  | [], v, h => by simp [tcells] at h
  | t :: r, v, h => by
    simp [tcells] at h
    rcases h with rfl | rfl | rfl | h
    · rfl
    · rfl
    · rfl
    · exact tcells_one r v h
theorem tcells_app : ∀ (a b : List T3), tcells (a ++ b) = tcells a ++ tcells b
  | [], b => rfl
  | t :: r, b => by simp [tcells, tcells_app r b]
/-- The cells of a list are those alone. -/
theorem cells3_eq {xs : List Value} {ts : List T3} (h : Cells3 xs ts) (hl : xs.length = ts.length * 3) : xs = tcells ts := by
  apply List.ext_getElem?
  intro i
  by_cases hi : i < ts.length * 3
  · obtain ⟨h1, h2, h3⟩ := h (i / 3) (by omega)
    obtain ⟨k1, k2, k3⟩ := tcells_at ts (i / 3) (by omega)
    rcases (show i = i / 3 * 3 ∨ i = i / 3 * 3 + 1 ∨ i = i / 3 * 3 + 2 from by omega) with e | e | e
    · rw [← e] at h1 k1; rw [h1, k1]
    · rw [← e] at h2 k2; rw [h2, k2]
    · rw [← e] at h3 k3; rw [h3, k3]
  · rw [List.getElem?_eq_none (by omega), List.getElem?_eq_none (by rw [tcells_len]; omega)]
theorem tcells_src {w w1 : World} {b off n : Nat} {ts : List T3} (hB : Below n w w1) (hb : b < n)
    (hc : ∀ j, j < ts.length → w.cell? ⟨b, off + j * 3, none⟩ = some (.int .i64 (t3 ts j).1) ∧ w.cell? ⟨b, off + j * 3 + 1, none⟩ = some (.int .i64 (t3 ts j).2.1) ∧ w.cell? ⟨b, off + j * 3 + 2, none⟩ = some (.int .i64 (t3 ts j).2.2)) :
    ∀ i v, (tcells ts)[i]? = some v → w1.cell? ((⟨b, off, none⟩ : Addr).add i) = some v := by
  intro i v h
  have hi : i < ts.length * 3 := by have := (List.getElem?_eq_some_iff.1 h).1; rwa [tcells_len] at this
  have ea : (⟨b, off, none⟩ : Addr).add i = ⟨b, off + i, none⟩ := by by_cases h : i = 0 <;> simp [Addr.add, h]
  rw [ea, hB.cell (p := ⟨b, off + i, none⟩) hb]
  obtain ⟨h1, h2, h3⟩ := tcells_at ts (i / 3) (by omega)
  obtain ⟨k1, k2, k3⟩ := hc (i / 3) (by omega)
  rcases (show i = i / 3 * 3 ∨ i = i / 3 * 3 + 1 ∨ i = i / 3 * 3 + 2 from by omega) with e | e | e
  · rw [← e] at h1 k1; rw [k1, ← h1]; exact h
  · rw [← e] at h2; rw [Nat.add_assoc, ← e] at k2; rw [k2, ← h2]; exact h
  · rw [← e] at h3; rw [Nat.add_assoc, ← e] at k3; rw [k3, ← h3]; exact h
theorem freshC_row {w : World} {g lo : Nat} {ts : List T3} {cur : List Value} (hg : w.heap[g]? = some (.cells cur.toArray 49 (0, 0))) (hb : lo ≤ g) (hl : ts.length ≤ 2097152) : FreshC lo (g + 1) (w.setRow g (tcells ts).toArray) (some ⟨g, 0, none⟩) ts.length ts := by
  refine .inr ⟨g, tcells ts, rfl, by omega, ⟨tcells_len ts, .inr ⟨g, ts.length, (tcells ts).toArray, rfl, hb, ?_, Nat.le_refl _, by unfold maxLen; omega, by simp [tcells_len], by simp [List.take_of_length_le, tcells_len]⟩⟩, tcells_at ts⟩
  exact setRow_heap w g _ _ 49 _ hg

set_option maxHeartbeats 1000000 in
theorem copyListC_any (ao : Option Addr) (cap : Nat) (ts : List T3) (w : World) (hl : ts.length ≤ 1048576) (hz : TimersIn w.heap.size w ao ts) :
    Calls Try.prog 26 #[.slice ao ts.length cap] w fun e w' => (∃ to, e = .returned (.slice to ts.length ts.length) ∧ FreshC w.heap.size w'.heap.size w' to ts.length ts) ∧ Below w.heap.size w w' := by
  by_cases h0 : ts.length = 0
  · obtain rfl : ts = [] := List.length_eq_zero_iff.1 h0
    go_enter Try.func26, Try.ntmps26
    go_wp2
    go_ret
    exact ⟨⟨none, rfl, .inl rfl⟩, Below.refl _ _⟩
  · have h0' : ((ts.length : Int) == 0) = false := by simp; intro h; apply h0; simp [h]
    obtain ⟨b, off, rfl, hb, hc⟩ := hz.pos (k := 0) (by omega)
    obtain ⟨i0, hi, hz0, hz1, hz2⟩ := info_parts Try.info49
    go_enter Try.func26, Try.ntmps26
    go_wp2_with (at_make; refine wpList_make_full _ rfl _ _ 23 rfl w.heap.size 49 i0 (.agg #[.int .i64 0, .int .i64 0, .int .i64 0]) 3 Try.underlying23 hi hz0 hz1 .i64 .i64 _ _ ts.length rfl rfl rfl rfl (by rw [hz2]; omega) (by unfold maxLen; omega) (Nat.le_refl _) ?_; intro w1 hown hgrow; obtain ⟨cur, hcur, hcl, _⟩ := owns_open hown; have hB1 : Below w.heap.size w w1 := (Below.refl _ _).grown hgrow (Nat.le_refl _) (fun k e => by cases e); have hrun := run_copy_rows (P := Try.prog) w1 23 23 3 49 w.heap.size ts.length ts.length ⟨b, off, none⟩ ts.length cap cur.toArray 49 (tcells ts) 3 ts.length Try.underlying23 Try.size49 hcur (by simp) (tcells_len ts) (tcells_src hB1 hb hc) (by simp [tcells_len, hcl]) (tcells_one ts); have HC := show Hid (w1.heap[w.heap.size]? = some (.cells cur.toArray 49 (0, 0))) from hcur; clear hown hgrow hcur)
    go_ret
    have hlt : w.heap.size < w1.heap.size := (Array.getElem?_eq_some_iff.1 HC.out).1
    exact ⟨⟨_, rfl, (freshC_row HC.out (Nat.le_refl _) (by omega)).wide (Nat.le_refl _) (by simp [World.setRow]; omega)⟩, below_setRow hB1 (Nat.le_refl _) _⟩

/-- A clock in its own memory, as an ending. -/
def AnsC (lo : Nat) (now sq : Int) (ts : List T3) (e : Ending) (w' : World) : Prop := ∃ to tc, e = .returned (.agg #[.int .i64 now, .int .i64 sq, .slice to ts.length tc]) ∧ FreshC lo w'.heap.size w' to tc ts

set_option maxHeartbeats 2000000 in
theorem copyClock_any (now sq : Int) (ao : Option Addr) (cap : Nat) (ts : List T3) (w : World) (hl : ts.length ≤ 1048576) (hz : TimersIn w.heap.size w ao ts) :
    Calls Try.prog 15 #[.agg #[.int .i64 now, .int .i64 sq, .slice ao ts.length cap]] w fun e w' => AnsC w.heap.size now sq ts e w' ∧ Below w.heap.size w w' := by
  obtain ⟨W2, hW2⟩ : ∃ W2, W2 = (w.alloc (.cells #[.int .i64 now, .int .i64 sq, .slice ao ts.length cap] 25)).alloc (.cells #[.int .i64 0, .int .i64 0, .slice none 0 0] 25) := ⟨_, rfl⟩
  have hB2 : Below w.heap.size w W2 := by rw [hW2]; exact below2 _ _ _
  have hs2 : W2.heap.size = w.heap.size + 1 + 1 := by rw [hW2]; simp
  have b0 : W2.cell? ⟨w.heap.size, 0, none⟩ = some (.int .i64 now) := by rw [hW2]; simp [go_sem]
  have b1 : W2.cell? ⟨w.heap.size, 1, none⟩ = some (.int .i64 sq) := by rw [hW2]; simp [go_sem]
  have b2 : W2.cell? ⟨w.heap.size, 2, none⟩ = some (.slice ao ts.length cap) := by rw [hW2]; simp [go_sem]
  have r0 : W2.cell? ⟨w.heap.size + 1, 0, none⟩ = some (.int .i64 0) := by rw [hW2]; simp [go_sem]
  have r1 : W2.cell? ⟨w.heap.size + 1, 1, none⟩ = some (.int .i64 0) := by rw [hW2]; simp [go_sem]
  have r2 : W2.cell? ⟨w.heap.size + 1, 2, none⟩ = some (.slice none 0 0) := by rw [hW2]; simp [go_sem]
  have f0 : W2.frozen? ⟨w.heap.size + 1, 0, none⟩ = false := by rw [hW2]; simp [go_sem]
  have f1 : W2.frozen? ⟨w.heap.size + 1, 1, none⟩ = false := by rw [hW2]; simp [go_sem]
  have f2 : W2.frozen? ⟨w.heap.size + 1, 2, none⟩ = false := by rw [hW2]; simp [go_sem]
  have hW2' : Hid (W2 = (w.alloc (.cells #[.int .i64 now, .int .i64 sq, .slice ao ts.length cap] 25)).alloc (.cells #[.int .i64 0, .int .i64 0, .slice none 0 0] 25)) := hW2
  have l0 : w.heap.size < W2.heap.size := by omega
  have l1 : w.heap.size + 1 < W2.heap.size := by omega
  clear hW2
  go_enter Try.func15, Try.ntmps15
  go_wp2
  rw [← hW2'.out]
  go_region_with (go_at_call 26; refine (copyListC_any ao cap ts _ hl (by exact hz.later hB2.drew)).mono ?_; rintro e w1 ⟨⟨to, rfl, hT⟩, hb1⟩; have hB3 : Below w.heap.size w w1 := hB2.drew.trans (hb1.mono hB2.size); have k0 : w1.cell? ⟨w.heap.size, 0, none⟩ = some (.int .i64 now) := (hb1.cell (p := ⟨w.heap.size, 0, none⟩) l0).trans b0; have k1 : w1.cell? ⟨w.heap.size, 1, none⟩ = some (.int .i64 sq) := (hb1.cell (p := ⟨w.heap.size, 1, none⟩) l0).trans b1; have HT : Hid (FreshC W2.heap.size w1.heap.size w1 to ts.length ts) := hT; have m0 : w1.cell? ⟨w.heap.size + 1, 0, none⟩ = some (.int .i64 0) := (hb1.cell (p := ⟨w.heap.size + 1, 0, none⟩) l1).trans r0; have m1 : w1.cell? ⟨w.heap.size + 1, 1, none⟩ = some (.int .i64 0) := (hb1.cell (p := ⟨w.heap.size + 1, 1, none⟩) l1).trans r1; have m2 : w1.cell? ⟨w.heap.size + 1, 2, none⟩ = some (.slice none 0 0) := (hb1.cell (p := ⟨w.heap.size + 1, 2, none⟩) l1).trans r2; have n0 : w1.frozen? ⟨w.heap.size + 1, 0, none⟩ = false := (hb1.frozen (p := ⟨w.heap.size + 1, 0, none⟩) l1).trans f0; have n1 : w1.frozen? ⟨w.heap.size + 1, 1, none⟩ = false := (hb1.frozen (p := ⟨w.heap.size + 1, 1, none⟩) l1).trans f1; have n2 : w1.frozen? ⟨w.heap.size + 1, 2, none⟩ = false := (hb1.frozen (p := ⟨w.heap.size + 1, 2, none⟩) l1).trans f2; clear hT)
  all_goals
    go_wp2
    refine bodyPost_ret (v := .agg #[.int .i64 now, .int .i64 sq, .slice to ts.length ts.length]) (by simp [results, Try.results15, go_sem, m0, m1, m2]) rfl ⟨⟨to, _, rfl, ?_⟩, ?_⟩
    · exact (((HT.out.setBelow (a := ⟨w.heap.size + 1, 0, none⟩) l1 _).setBelow (a := ⟨w.heap.size + 1, 1, none⟩) l1 _).setBelow (a := ⟨w.heap.size + 1, 2, none⟩) l1 _).wide (by omega) (by simp)
    · exact ((hB3.setCell (p := ⟨w.heap.size + 1, 0, none⟩) (by simp) _).setCell (p := ⟨w.heap.size + 1, 1, none⟩) (by simp) _).setCell (p := ⟨w.heap.size + 1, 2, none⟩) (by simp) _

/-- The first place with the id. -/
def findT (ts : List T3) (id : Int) : Option Nat := ts.findIdx? (fun t => t.1 == id)
theorem findT_some {ts : List T3} {id : Int} {k : Nat} (hk : k < ts.length) (h : (t3 ts k).1 = id) (hno : ∀ j, j < k → (t3 ts j).1 ≠ id) : findT ts id = some k := by
  unfold findT
  rw [List.findIdx?_eq_some_iff_getElem]
  refine ⟨hk, by simpa [t3, hk] using h, fun j hj => ?_⟩
  have := hno j hj
  have hj' : j < ts.length := by omega
  simpa [t3, hj'] using this
theorem findT_none {ts : List T3} {id : Int} (hno : ∀ j, j < ts.length → (t3 ts j).1 ≠ id) : findT ts id = none := by
  unfold findT
  rw [List.findIdx?_eq_none_iff]
  intro x hx
  obtain ⟨j, hj, rfl⟩ := List.mem_iff_getElem.1 hx
  have := hno j hj
  simpa [t3, hj] using this
theorem findT_lt {ts : List T3} {id : Int} {k : Nat} (h : findT ts id = some k) : k < ts.length := by
  unfold findT at h
  rw [List.findIdx?_eq_some_iff_getElem] at h
  exact h.1
def atI (ts : List T3) (id : Int) : Int := match findT ts id with | some k => (k : Int) | none => -1
def placeV (ts : List T3) (id : Int) : Value := match findT ts id with | some k => .tuple #[.int .i64 (k : Int), .bool true] | none => .tuple #[.int .i64 0, .bool false]

set_option maxHeartbeats 1000000 in
theorem l2At_any (now sq : Int) (ao : Option Addr) (cap : Nat) (ts : List T3) (id : Int) (w : World) (hl : ts.length ≤ 1048576) (hz : TimersIn w.heap.size w ao ts) :
    Calls Try.prog 30 #[.agg #[.int .i64 now, .int .i64 sq, .slice ao ts.length cap], .int .i64 id] w fun e w' => e = .returned (.int .i64 (atI ts id)) ∧ Below w.heap.size w w' := by
  go_enter Try.func30, Try.ntmps30
  go_wp2
  go_loopw [10] (fun i wr => ∃ k : Nat, k ≤ ts.length ∧ i = .int .i64 k ∧ Hid (∀ j, j < k → (t3 ts j).1 ≠ id) ∧ Below w.heap.size w wr) (fun i _ => ts.length - (intOf i).toNat)
  case atStart => exact ⟨0, Nat.zero_le _, rfl, fun j hj => by omega, below1 _ _⟩
  case round =>
    obtain ⟨k, hk, rfl, hno, hB⟩ := hrel
    have hsz := hB.size
    by_cases hlt : k < ts.length
    · obtain ⟨b, off, rfl, hb, hc⟩ := hz.pos hlt
      obtain ⟨c1, c2, c3⟩ := hc k hlt
      have d1 := (hB.cell (p := ⟨b, off + k * 3, none⟩) hb).trans c1
      have d2 := (hB.cell (p := ⟨b, off + k * 3 + 1, none⟩) hb).trans c2
      have d3 := (hB.cell (p := ⟨b, off + k * 3 + 2, none⟩) hb).trans c3
      obtain ⟨⟨y1, y2, y3⟩, ey⟩ : ∃ v, v = t3 ts k := ⟨_, rfl⟩
      rw [← ey] at d1 d2 d3
      have HY : Hid (t3 ts k = (y1, y2, y3)) := ey.symm
      clear ey c1 c2 c3 hc hz
      dsimp only at d1 d2 d3
      by_cases hid : y1 = id
      · have hid' : (y1 == id) = true := by simpa using hid
        have HF : Hid (atI ts id = (k : Int)) := by rw [Hid, atI, findT_some hlt (by rw [HY.out]; exact hid) hno.out]
        clear hid
        go_wp2
        go_ret
        exact ⟨ret_int HF.out.symm, hB.alloc (by omega) _⟩
      · have hid' : (y1 == id) = false := by simpa using hid
        have HN : Hid ((t3 ts k).1 ≠ id) := by rw [HY.out]; exact hid
        clear hid
        go_wp2
        go_roundw
        case rel => exact ⟨k + 1, by omega, by go_num, fun j' hj' => by
          rcases Nat.lt_succ_iff_lt_or_eq.1 hj' with h | rfl
          · exact hno.out j' h
          · exact HN.out, hB.alloc (by omega) _⟩
        case measure => simp [intOf]; omega
    · obtain rfl : k = ts.length := by omega
      have HF : Hid (atI ts id = -1) := by rw [Hid, atI, findT_none hno.out]
      go_wp2
      go_ret
      exact ⟨ret_int HF.out.symm, hB⟩

end Go.Proofs.Ytpbgkkemaioidaa.Old
