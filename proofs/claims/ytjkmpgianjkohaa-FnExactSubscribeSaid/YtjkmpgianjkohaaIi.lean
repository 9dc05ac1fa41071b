
/- slices.Insert of a Sub into a row that has no room. No conditions but those written. -/
import Derived.Test.YtjkmpgianjkohaaTe
import Derived.Lib.AppendZerosOnto
import Derived.Shelf.Spec.SlicesInsert
import Derived.Deep.RegionLaw
namespace Go.Proofs.Ytjkmpgianjkohaa
open Go.RowKit

theorem run_copy_mid {P : Program} (w : World) (dT sT ty elem : TypeId) (g j dLen dCap : Nat) (a : Addr) (sLen sCap : Nat) (cur : List Value) (t : TypeId) (cs : List Value) (sz n : Nat)
    (hu : P.underlying dT = some (.slice elem)) (hs : (P.info? elem).map (·.size) = some sz) (hg : w.heap[g]? = some (.cells cur.toArray t (0, 0))) (hnm : Nat.min sLen dLen = n) (hn : cs.length = n * sz)
    (hsrc : ∀ j v, cs[j]? = some v → w.cell? (a.add j) = some v) (hfit : j + cs.length ≤ cur.length) (h1 : ∀ v ∈ cs, v.oneCell' = true) :
    (Builtin.copy_ #[dT, sT] ty #[.slice (some ⟨g, j, none⟩) dLen dCap, .slice (some a) sLen sCap]).run P w = .ok (goInt n) (w.setRow g (cur.take j ++ cs ++ cur.drop (j + cs.length)).toArray) := by
  have hl := run_loadCells_list (P := P) w a cs hsrc
  have hst := run_storeCells_at P g j t cs 0 cur.toArray w hg (by simpa using hfit) h1
  cases hq : P.info? elem with
  | none => simp [hq] at hs
  | some i =>
    have hi : i.size = sz := by simpa [hq] using hs
    simp only [Nat.add_zero] at hst
    simp [Builtin.copy_, run_underlying hu, Builtin.lenOf, Builtin.firstCells, sizeOf, typeInfo, hq, hi, hnm, ← hn, hl, hst]
theorem zeros_len (n : Nat) : (Builtin.zeroCells (Value.cells (.agg #[.int .i64 0, .int .i64 0, .bool false, .int .i64 0, .slice none 0 0])) n).toList.length = n * 5 := by simp [Builtin.zeroCells, Value.cells]
/-- The row behind the three writings. -/
theorem ins_row {cs vs za zb : List Value} {k m : Nat} (hc : cs.length = m) (hk : k ≤ m) (hv : vs.length = 5) (hz : za.length = m - k + 5) :
    (((cs.take k ++ za ++ zb).take k ++ vs ++ (cs.take k ++ za ++ zb).drop (k + vs.length)).take (k + 5) ++ cs.drop k ++ ((cs.take k ++ za ++ zb).take k ++ vs ++ (cs.take k ++ za ++ zb).drop (k + vs.length)).drop (k + 5 + (cs.drop k).length)) = cs.take k ++ vs ++ cs.drop k ++ zb := by
  have hkl : (cs.take k).length = k := by simp; omega
  have e1 : (cs.take k ++ za ++ zb).take k = cs.take k := by rw [List.append_assoc, List.take_left' hkl]
  have e2 : (cs.take k ++ za ++ zb).drop (k + vs.length) = za.drop 5 ++ zb := by
    rw [hv, List.append_assoc, ← List.drop_drop, List.drop_left' hkl, List.drop_append_of_le_length (by omega)]
  have hkv : (cs.take k ++ vs).length = k + 5 := by simp [hv]; omega
  rw [e1, e2, List.take_left' hkv]
  have e3 : (cs.take k ++ vs ++ (za.drop 5 ++ zb)).drop (k + 5 + (cs.drop k).length) = zb := by
    rw [← List.drop_drop, List.drop_left' hkv, ← List.append_nil (za.drop 5), List.append_assoc, List.nil_append, List.drop_left' (by simp; omega)]
  rw [e3]
set_option maxRecDepth 100000 in
set_option maxHeartbeats 8000000 in
theorem insert_grow (lo hi g : Nat) (us : List LSub) (x : LSub) (k pv : Nat) (w : World) (hl : us.length ≤ 10) (hk : k < us.length) (hF : hSub.Fresh lo hi w (some ⟨g, 0, none⟩) us.length us) (hx : hSub.In w.heap.size w (some ⟨pv, 0, none⟩) [x]) :
    Calls Try.prog 30 #[.slice (some ⟨g, 0, none⟩) us.length us.length, .int .i64 k, .slice (some ⟨pv, 0, none⟩) 1 1] w fun e w' => (∃ qc, e = .returned (.slice (some ⟨w.heap.size, 0, none⟩) (us.length + 1) qc) ∧ hSub.Fresh w.heap.size w'.heap.size w' (some ⟨w.heap.size, 0, none⟩) qc (us.take k ++ [x] ++ us.drop k)) ∧ Below w.heap.size w w' := by
  obtain ⟨i0, hi0, hz0, hzs, hzb⟩ := info_parts Try.info45
  have hsz : (Try.prog.info? 45).map (·.size) = some 5 := by rw [hi0]; simp [hzs]
  obtain ⟨cs, hcs⟩ : ∃ cs, cs = hSub.flat us := ⟨_, rfl⟩
  obtain ⟨vs, hvs⟩ : ∃ vs, vs = hSub.enc x := ⟨_, rfl⟩
  have hcl : cs.length = us.length * 5 := by rw [hcs]; exact hSub.flat_len us
  have hvl : vs.length = 5 := by rw [hvs]; exact hSub.len x
  have h1c : ∀ v ∈ cs, v.oneCell' = true := by rw [hcs]; exact hSub.flat_one us
  have h1v : ∀ v ∈ vs, v.oneCell' = true := by rw [hvs]; exact fun v hv => hSub.one x v hv
  have hgw : g < w.heap.size := by
    obtain ⟨g2, e2, _, _, h3, _⟩ := hF.at (by omega)
    simp at e2; subst e2; exact h3
  have hin := hF.in
  have hcc : ∀ j v, cs[j]? = some v → w.cell? ((⟨g, 0, none⟩ : Addr).add j) = some v := by rw [hcs]; exact hin.src
  have hvc : ∀ j v, vs[j]? = some v → w.cell? ((⟨pv, 0, none⟩ : Addr).add j) = some v := by
    have h := hx.src
    rw [Kind.flat_cons, Kind.flat_nil, List.append_nil, ← hvs] at h
    exact h
  have hpw : pv < w.heap.size := by
    rcases hx with h | ⟨b, off, e, hb, _⟩
    · cases h
    · simp at e; rw [e.1]; exact hb
  have hkk : (us.length : Int) + 1 - (k : Int) = ((us.length + 1 - k : Nat) : Int) := by omega
  have hik : k + (us.length + 1 - k) = us.length + 1 := by omega
  have hold : (Builtin.firstCells i0.size k (.slice (some ⟨g, 0, none⟩) k us.length)).run Try.prog w.drew = .ok (cs.take (k * 5)).toArray w.drew := by
    rw [hzs]
    exact run_firstCells_some w.drew 5 k ⟨g, 0, none⟩ k us.length (cs.take (k * 5)) (by rw [List.length_take]; omega) (fun j v hj => by
      rw [List.getElem?_take] at hj
      split at hj
      · exact hcc j v hj
      · cases hj)
  obtain ⟨G, hG⟩ : ∃ G, G = grownCap w (us.length + 1) us.length 45 := ⟨_, rfl⟩
  have hGn : us.length + 1 ≤ G := by rw [hG]; exact grownCap_ge w _ _ _
  have hGm : G ≤ maxLen := by rw [hG]; exact grownCap_le_maxLen w _ _ _ (by unfold maxLen; omega)
  obtain ⟨za, hza⟩ : ∃ za, za = (Builtin.zeroCells (Value.cells (.agg #[.int .i64 0, .int .i64 0, .bool false, .int .i64 0, .slice none 0 0])) (us.length + 1 - k)).toList := ⟨_, rfl⟩
  obtain ⟨zb, hzb2⟩ : ∃ zb, zb = (Builtin.zeroCells (Value.cells (.agg #[.int .i64 0, .int .i64 0, .bool false, .int .i64 0, .slice none 0 0])) (G - (us.length + 1))).toList := ⟨_, rfl⟩
  have hzal : za.length = us.length * 5 - k * 5 + 5 := by rw [hza, zeros_len]; omega
  have hzbl : zb.length = (G - (us.length + 1)) * 5 := by rw [hzb2, zeros_len]
  obtain ⟨R0, hR0⟩ : ∃ R0 : List Value, R0 = cs.take (k * 5) ++ za ++ zb := ⟨_, rfl⟩
  have hrz : ∀ ty, (Builtin.append_ #[27, 3] ty #[.slice (some ⟨g, 0, none⟩) k us.length, .int .i64 ((us.length : Int) + 1 - (k : Int))]).run Try.prog w =
      .ok (.slice (some ⟨w.heap.size, 0, none⟩) (us.length + 1) G) (w.drew.alloc (.cells R0.toArray 45)) := fun ty => by
    have h := Lib.run_append_grow_zeros w 27 3 ty 45 i0 _ .i64 .i64 Try.underlying27 Try.underlying3 hi0 hz0 (some ⟨g, 0, none⟩) k us.length (cs.take (k * 5)) hold (us.length + 1 - k) (by omega) (by omega) (by omega) (by omega) (by rw [hzb]; omega) (by rw [hzb, hik]; exact growslice_fits (by omega) (by omega))
    rw [hik, ← hG] at h
    have ea : (cs.take (k * 5)).toArray ++ Builtin.zeroCells (Value.cells (.agg #[.int .i64 0, .int .i64 0, .bool false, .int .i64 0, .slice none 0 0])) (us.length + 1 - k) ++ Builtin.zeroCells (Value.cells (.agg #[.int .i64 0, .int .i64 0, .bool false, .int .i64 0, .slice none 0 0])) (G - (us.length + 1)) = R0.toArray := by rw [hR0, hza, hzb2]; apply Array.ext'; simp
    rw [hkk, h, ea]
  obtain ⟨W1, hW1⟩ : ∃ W1, W1 = w.drew.alloc (.cells R0.toArray 45) := ⟨_, rfl⟩
  have hH1 : W1.heap[w.heap.size]? = some (.cells R0.toArray 45 (0, 0)) := by rw [hW1]; exact heap_alloc_new w.drew _
  have hB1 : Below w.heap.size w W1 := by rw [hW1]; exact (Below.refl _ w).drew.alloc (Nat.le_refl _) _
  have hRl : R0.length = G * 5 := by rw [hR0]; simp [hzal, hzbl, hcl]; omega
  obtain ⟨R1, hR1⟩ : ∃ R1 : List Value, R1 = R0.take (k * 5) ++ vs ++ R0.drop (k * 5 + vs.length) := ⟨_, rfl⟩
  have hcA : ∀ ty dc, (Builtin.copy_ #[27, 27] ty #[.slice (some ⟨w.heap.size, k * 5, none⟩) (us.length + 1 - k) dc, .slice (some ⟨pv, 0, none⟩) 1 1]).run Try.prog W1 = .ok (goInt 1) (W1.setRow w.heap.size R1.toArray) := fun ty dc => by
    rw [hR1]
    exact run_copy_mid W1 _ _ ty 45 w.heap.size (k * 5) (us.length + 1 - k) dc ⟨pv, 0, none⟩ 1 1 R0 45 vs 5 1 Try.underlying27 hsz hH1 (by simp only [Nat.min_def]; split <;> omega) (by omega) (fun j v hj => by have h := hvc j v hj; rw [Addr.add_lit] at h ⊢; rw [hB1.cell (p := ⟨pv, 0 + j, none⟩) hpw]; exact h) (by omega) h1v
  obtain ⟨W2, hW2⟩ : ∃ W2, W2 = W1.setRow w.heap.size R1.toArray := ⟨_, rfl⟩
  have hH2 : W2.heap[w.heap.size]? = some (.cells R1.toArray 45 (0, 0)) := by rw [hW2]; exact setRow_heap W1 _ _ _ _ _ hH1
  have hB2 : Below w.heap.size w W2 := by rw [hW2]; exact below_setRow hB1 (Nat.le_refl _) _
  have hR1l : R1.length = G * 5 := by rw [hR1]; simp [hRl, hvl]; omega
  obtain ⟨R2, hR2⟩ : ∃ R2 : List Value, R2 = R1.take (k * 5 + 5) ++ cs.drop (k * 5) ++ R1.drop (k * 5 + 5 + (cs.drop (k * 5)).length) := ⟨_, rfl⟩
  have hcB : ∀ ty dc sc, (Builtin.copy_ #[27, 27] ty #[.slice (some ⟨w.heap.size, k * 5 + 5, none⟩) (us.length - k) dc, .slice (some ⟨g, k * 5, none⟩) (us.length - k) sc]).run Try.prog W2.drew = .ok (goInt (us.length - k : Nat)) (W2.drew.setRow w.heap.size R2.toArray) := fun ty dc sc => by
    rw [hR2]
    exact run_copy_mid W2.drew _ _ ty 45 w.heap.size (k * 5 + 5) (us.length - k) dc ⟨g, k * 5, none⟩ (us.length - k) sc R1 45 (cs.drop (k * 5)) 5 (us.length - k) Try.underlying27 hsz hH2 (by simp only [Nat.min_def]; split <;> omega) (by rw [List.length_drop]; omega) (fun j v hj => by
      rw [List.getElem?_drop] at hj
      have h := hcc (k * 5 + j) v hj
      rw [Addr.add_lit, Nat.zero_add] at h
      rw [Addr.add_lit]
      show W2.cell? ⟨g, k * 5 + j, none⟩ = some v
      rw [hB2.cell (p := ⟨g, k * 5 + j, none⟩) hgw]; exact h) (by rw [List.length_drop]; omega) (fun v hv => h1c v (List.mem_of_mem_drop hv))
  have hfin : R2 = hSub.flat (us.take k ++ [x] ++ us.drop k) ++ zb := by
    have e1 : cs.take (k * 5) = hSub.flat (us.take k) := by
      rw [hcs]
      conv => lhs; rw [← List.take_append_drop k us, hSub.flat_app]
      exact List.take_left' (by rw [hSub.flat_len, List.length_take]; show _ * 5 = _; omega)
    have e2 : cs.drop (k * 5) = hSub.flat (us.drop k) := by
      rw [hcs]
      conv => lhs; rw [← List.take_append_drop k us, hSub.flat_app]
      exact List.drop_left' (by rw [hSub.flat_len, List.length_take]; show _ * 5 = _; omega)
    have h := ins_row (zb := zb) hcl (show k * 5 ≤ us.length * 5 by omega) hvl hzal
    rw [hR2, hR1, hR0, h, e1, e2, hvs, hSub.flat_app, hSub.flat_app, Kind.flat_cons, Kind.flat_nil, List.append_nil]
  obtain ⟨W3, hW3⟩ : ∃ W3, W3 = W2.drew.setRow w.heap.size R2.toArray := ⟨_, rfl⟩
  have hH3 : W3.heap[w.heap.size]? = some (.cells R2.toArray 45 (0, 0)) := by rw [hW3]; exact setRow_heap W2.drew _ _ _ _ _ hH2
  have hB3 : Below w.heap.size w W3 := by rw [hW3]; exact below_setRow hB2.drew (Nat.le_refl _) _
  have HFR : Hid (hSub.Fresh w.heap.size W3.heap.size W3 (some ⟨w.heap.size, 0, none⟩) G (us.take k ++ [x] ++ us.drop k)) := by
    have hll : (us.take k ++ [x] ++ us.drop k).length = us.length + 1 := by simp; omega
    refine .inr ⟨w.heap.size, rfl, (Array.getElem?_eq_some_iff.1 hH3).1, hSub.flat_len _, .inr ⟨w.heap.size, G, R2.toArray, rfl, Nat.le_refl _, hH3, by omega, hGm, by rw [hfin, List.size_toArray, List.length_append, hSub.flat_len, hll, hzbl]; show (us.length + 1) * 5 + _ = G * 5; omega, ?_⟩⟩
    rw [hfin]
    simp [hSub.flat_len]
  rw [← hW1] at hrz
  rw [← hW2] at hcA
  rw [← hW3] at hcB
  have HB3 := hid hB3
  have n1 : ((1 : Int) == 0) = false := rfl
  have n2 : ((k : Int) == (us.length : Int)) = false := by simp; omega
  have n3 : decide ((us.length : Int) < (us.length : Int) + 1) = true := by simp; omega
  have hk0 : (0 : Int) ≤ (k : Int) := by omega
  have hk1 : (k : Int) ≤ (us.length : Int) := by omega
  have hGi : ¬ (G = k) := by omega
  have hGim : ¬ (G = k + 1) := by omega
  have hci : ¬ (us.length = k) := by omega
  have hk2 : (k : Int) + 1 ≤ (us.length : Int) + 1 := by omega
  have hw1 : IntKind.i64.wrap ((k : Int) + 1) = (k : Int) + 1 := by rw [IntKind.wrap_i64]; omega
  have hb1 : (0 : Int) ≤ (k : Int) + 1 := by omega
  have hin2 : k ≤ us.length := by omega
  have htn : ((k : Int) + 1).toNat = k + 1 := by omega
  clear hW3 hW2 hW1 hH1 hH2 hH3 hB1 hB2 hB3 hfin hR2 hR1 hR0 hRl hR1l hzal hzbl hza hzb2 hold hcc hvc h1c h1v hin hx hF hcs hvs hcl hvl hik hkk hG hi0 hz0 hzs hzb hsz
  go_enter Try.func30, Try.ntmps30
  go_wp2_with (first
    | (at_builtin; refine Lib.wpList_append_run _ rfl _ _ _ _ rfl _ _ rfl rfl _ _ (hrz _) ?_)
    | (at_builtin; refine wpList_copy_runI _ rfl _ _ 27 27 rfl _ _ rfl rfl (hcA _ _) ?_))
  go_region_law (refine step_copy_runI rfl _ _ 27 27 rfl (.slice (some ⟨w.heap.size, k * 5 + 5, none⟩) (us.length - k) (G - (k + 1))) (.slice (some ⟨g, k * 5, none⟩) (us.length - k) (us.length - k)) (by simp [Act.eval, Act.put] <;> omega) (by simp [Act.eval, Act.put] <;> omega) (hcB _ _ _) ?_)
  go_wp2
  go_ret
  exact ⟨⟨_, rfl, HFR.out⟩, HB3.out⟩
set_option maxRecDepth 100000 in
set_option maxHeartbeats 8000000 in
theorem insert_end (lo hi : Nat) (o : Option Addr) (us : List LSub) (x : LSub) (pv : Nat) (w : World) (hl : us.length ≤ 10) (hF : hSub.Fresh lo hi w o us.length us) (hx : hSub.In w.heap.size w (some ⟨pv, 0, none⟩) [x]) :
    Calls Try.prog 30 #[.slice o us.length us.length, .int .i64 us.length, .slice (some ⟨pv, 0, none⟩) 1 1] w fun e w' => (∃ qc, e = .returned (.slice (some ⟨w.heap.size, 0, none⟩) (us.length + 1) qc) ∧ hSub.Fresh w.heap.size w'.heap.size w' (some ⟨w.heap.size, 0, none⟩) qc (us ++ [x])) ∧ Below w.heap.size w w' := by
  obtain ⟨i0, hi0, hz0, hzs, hzb⟩ := info_parts Try.info45
  have hvc : ∀ j v, (hSub.enc x)[j]? = some v → w.cell? ((⟨pv, 0, none⟩ : Addr).add j) = some v := by
    have h := hx.src
    rw [Kind.flat_cons, Kind.flat_nil, List.append_nil] at h
    exact h
  have hold : (Builtin.firstCells i0.size us.length (.slice o us.length us.length)).run Try.prog w.drew = .ok (hSub.flat us).toArray w.drew := by
    rw [hzs]
    rcases hF with h | ⟨g, rfl, hg, ho⟩
    · subst h
      cases o with
      | none => rfl
      | some a => exact run_firstCells_some w.drew 5 0 a 0 0 [] rfl (by simp)
    · have hin : hSub.In w.heap.size w (some ⟨g, 0, none⟩) us := Kind.Fresh.in (lo := lo) (hi := hi) (.inr ⟨g, rfl, hg, ho⟩)
      exact run_firstCells_some w.drew 5 us.length ⟨g, 0, none⟩ us.length us.length (hSub.flat us) (hSub.flat_len us) hin.src
  have hnew : Src Try.prog i0.size 27 (.slice (some ⟨pv, 0, none⟩) 1 1) 1 (hSub.enc x) w := by
    rw [hzs]
    exact Src.ofSlice w Try.underlying27 ⟨pv, 0, none⟩ 1 1 (hSub.enc x) (hSub.len x) hvc (fun u hu => hSub.one x u hu)
  obtain ⟨G, hG⟩ : ∃ G, G = grownCap w (us.length + 1) us.length 45 := ⟨_, rfl⟩
  have hGn : us.length + 1 ≤ G := by rw [hG]; exact grownCap_ge w _ _ _
  have hGm : G ≤ maxLen := by rw [hG]; exact grownCap_le_maxLen w _ _ _ (by unfold maxLen; omega)
  obtain ⟨zb, hzb2⟩ : ∃ zb, zb = (Builtin.zeroCells (Value.cells (.agg #[.int .i64 0, .int .i64 0, .bool false, .int .i64 0, .slice none 0 0])) (G - (us.length + 1))).toList := ⟨_, rfl⟩
  have hzbl : zb.length = (G - (us.length + 1)) * 5 := by rw [hzb2, zeros_len]
  obtain ⟨R0, hR0⟩ : ∃ R0 : List Value, R0 = hSub.flat (us ++ [x]) ++ zb := ⟨_, rfl⟩
  have hrz : ∀ ty, (Builtin.append_ #[27, 27] ty #[.slice o us.length us.length, .slice (some ⟨pv, 0, none⟩) 1 1]).run Try.prog w =
      .ok (.slice (some ⟨w.heap.size, 0, none⟩) (us.length + 1) G) (w.drew.alloc (.cells R0.toArray 45)) := fun ty => by
    have h := run_append_grow_src (w := w) 27 27 ty 45 i0 _ Try.underlying27 hi0 hz0 o us.length us.length (hSub.flat us) hold (.slice (some ⟨pv, 0, none⟩) 1 1) 1 (hSub.enc x) hnew (by omega) (by omega) (by rw [hzb]; exact growslice_fits (by omega) (by omega))
    rw [← hG] at h
    have ea : (hSub.flat us ++ hSub.enc x).toArray ++ Builtin.zeroCells (Value.cells (.agg #[.int .i64 0, .int .i64 0, .bool false, .int .i64 0, .slice none 0 0])) (G - (us.length + 1)) = R0.toArray := by rw [hR0, hzb2, hSub.flat_app, Kind.flat_cons, Kind.flat_nil, List.append_nil]; apply Array.ext'; simp
    rw [h, ea]
  obtain ⟨W1, hW1⟩ : ∃ W1, W1 = w.drew.alloc (.cells R0.toArray 45) := ⟨_, rfl⟩
  have hH1 : W1.heap[w.heap.size]? = some (.cells R0.toArray 45 (0, 0)) := by rw [hW1]; exact heap_alloc_new w.drew _
  have hB1 : Below w.heap.size w W1 := by rw [hW1]; exact (Below.refl _ w).drew.alloc (Nat.le_refl _) _
  have HFR : Hid (hSub.Fresh w.heap.size W1.heap.size W1 (some ⟨w.heap.size, 0, none⟩) G (us ++ [x])) := by
    have hll : (us ++ [x]).length = us.length + 1 := by simp
    refine .inr ⟨w.heap.size, rfl, (Array.getElem?_eq_some_iff.1 hH1).1, hSub.flat_len _, .inr ⟨w.heap.size, G, R0.toArray, rfl, Nat.le_refl _, hH1, by omega, hGm, by rw [hR0, List.size_toArray, List.length_append, hSub.flat_len, hll, hzbl]; show (us.length + 1) * 5 + _ = G * 5; omega, ?_⟩⟩
    rw [hR0]
    simp [hSub.flat_len]
  rw [← hW1] at hrz
  have HB1 := hid hB1
  have n2 : ((us.length : Int) == (us.length : Int)) = true := by simp
  have hk0 : (0 : Int) ≤ (us.length : Int) := by omega
  clear hW1 hH1 hB1 hR0 hzbl hzb2 hold hnew hvc hx hF hG hi0 hz0 hzs hzb
  go_enter Try.func30, Try.ntmps30
  go_wp2_with (at_builtin; refine Lib.wpList_append_run _ rfl _ _ _ _ rfl _ _ rfl rfl _ _ (hrz _) ?_)
  go_ret
  exact ⟨⟨_, rfl, HFR.out⟩, HB1.out⟩
/-- A Sub goes into a row of its own that has no room. -/
theorem insert_any (lo hi : Nat) (o : Option Addr) (us : List LSub) (x : LSub) (k pv : Nat) (w : World) (hl : us.length ≤ 10) (hk : k ≤ us.length) (hF : hSub.Fresh lo hi w o us.length us) (hx : hSub.In w.heap.size w (some ⟨pv, 0, none⟩) [x]) :
    Calls Try.prog 30 #[.slice o us.length us.length, .int .i64 k, .slice (some ⟨pv, 0, none⟩) 1 1] w fun e w' => (∃ qc, e = .returned (.slice (some ⟨w.heap.size, 0, none⟩) (us.length + 1) qc) ∧ hSub.Fresh w.heap.size w'.heap.size w' (some ⟨w.heap.size, 0, none⟩) qc (us.take k ++ [x] ++ us.drop k)) ∧ Below w.heap.size w w' := by
  by_cases hlt : k < us.length
  · obtain ⟨g, rfl, _⟩ := hF.at (by omega)
    exact insert_grow lo hi g us x k pv w hl hlt hF hx
  · obtain rfl : k = us.length := by omega
    rw [List.take_length, List.drop_length, List.append_nil]
    exact insert_end lo hi o us x pv w hl hF hx
end Go.Proofs.Ytjkmpgianjkohaa
