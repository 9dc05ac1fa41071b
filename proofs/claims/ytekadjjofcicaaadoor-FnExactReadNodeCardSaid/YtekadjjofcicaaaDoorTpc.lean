
/- Texts cut at a mark: both sides. No conditions but those written. -/
import Derived.Test.YtekadjjofcicaaaDoorTpb
import Derived.Lib.OthersKept
namespace Go.Proofs.YtekadjjofcicaaaDoor
open Go.RowKit

/-- A row of texts of its own is answered. -/
def AnsS (w : World) (q : List ByteArray) (e : Ending) (w' : World) : Prop := (∃ go qc, e = .returned (.slice go q.length qc) ∧ (go = none → qc = 0) ∧ kS.Fresh w.heap.size w'.heap.size w' go qc q) ∧ Below w.heap.size w w'
set_option maxRecDepth 10000 in
set_option maxHeartbeats 4000000 in
theorem l13Split_is (s : ByteArray) (m : Int) (w : World) (hs : s.size ≤ 1048576) :
    Calls Tryd.prog 26 #[.string s, .int .u8 m] w fun e w' => AnsS w (splitB s m) e w' := by
  go_enter Tryd.func26, Tryd.ntmps26
  go_wp2
  go_loopw [5, 6, 7] (fun u a i wr => ∃ (k f : Nat) (v : Value) (acc : List ByteArray), v = u ∧ a = .int .i64 (f : Int) ∧ i = .int .i64 (k : Int) ∧ k ≤ s.size + 1 ∧ (k ≤ s.size → f ≤ k) ∧ acc.length ≤ k ∧ Hid (kS.Own w.heap.size wr v acc) ∧ Hid ((k ≤ s.size → acc ++ splitGo s m (s.size - k) k f = splitB s m) ∧ (k = s.size + 1 → acc = splitB s m)) ∧ Below w.heap.size w wr) (fun _ _ i _ => s.size + 1 - (intOf i).toNat)
  case atStart => exact ⟨0, 0, _, [], rfl, rfl, rfl, Nat.zero_le _, fun _ => Nat.le_refl _, Nat.le_refl _, Kind.Own.nil _ _ _, ⟨fun _ => rfl, fun h => by omega⟩, Below.refl _ _⟩
  case round =>
    obtain ⟨k, f, v, acc, rfl, rfl, rfl, hk, hfk, hal, hO, hI, hB⟩ := hrel
    have hs1 := hB.size
    by_cases hlt : k < s.size
    · have hfk' := hfk (by omega)
      have hx := byteI_at hlt
      by_cases he : byteI s k = m
      · have HI2 : Hid ((k + 1 ≤ s.size → (acc ++ [s.extract f k]) ++ splitGo s m (s.size - (k + 1)) (k + 1) (k + 1) = splitB s m) ∧ (k + 1 = s.size + 1 → acc ++ [s.extract f k] = splitB s m)) := by
          refine ⟨fun _ => ?_, fun h => by omega⟩
          rw [← hI.out.1 (by omega), show s.size - k = (s.size - (k + 1)) + 1 by omega, splitGo, if_pos he]; simp
        have he' : (((s[k]'hlt).toNat : Int) == m) = true := by rw [← hx]; simpa using he
        have hne : ((k : Int) == (s.size : Int)) = false := by simp; omega
        clear he hx hI
        have HA : Hid (kS.Own w.heap.size (wr.alloc (.cells #[.string (s.extract f k)] 9)) v acc) := hO.out.below (below1 _ _)
        have HN : Hid (kS.In (wr.heap.size + 1) (wr.alloc (.cells #[.string (s.extract f k)] 9)) (some ⟨wr.heap.size, 0, none⟩) [s.extract f k]) := text_one (by omega) (by simp)
        have hBa : Below w.heap.size w (wr.alloc (.cells #[.string (s.extract f k)] 9)) := Below.allocS hB _
        have hll : acc.length + 1 ≤ 4194304 := by omega
        go_wp2_with (at_builtin; refine Kind.app kS_ok (wr.alloc (.cells #[.string (s.extract f k)] 9)) rfl (.tmp 25) (.tmp 30) rfl w.heap.size v acc rfl HA.out (by simp; omega) (some ⟨wr.heap.size, 0, none⟩) [s.extract f k] 1 1 rfl rfl (by simp) _ HN.out hll ?_; intro v' w' hO' hB' hG' hn'; have hB2 : Below w.heap.size w w' := hBa.trans (hB'.mono (by omega)); have HO' : Hid (kS.Own w.heap.size w' v' (acc ++ [s.extract f k])) := hO'; clear hO' hB' hG' hn')
        go_roundw
        case rel => exact ⟨k + 1, k + 1, v', acc ++ [s.extract f k], rfl, by go_num, by go_num, by omega, fun _ => Nat.le_refl _, by simp; omega, HO', HI2, hB2⟩
        case measure => simp [intOf]; omega
      · have HI2 : Hid ((k + 1 ≤ s.size → acc ++ splitGo s m (s.size - (k + 1)) (k + 1) f = splitB s m) ∧ (k + 1 = s.size + 1 → acc = splitB s m)) := by
          refine ⟨fun _ => ?_, fun h => by omega⟩
          rw [← hI.out.1 (by omega), show s.size - k = (s.size - (k + 1)) + 1 by omega, splitGo, if_neg he]
        have he' : (((s[k]'hlt).toNat : Int) == m) = false := by rw [← hx]; simpa using he
        have hne : ((k : Int) == (s.size : Int)) = false := by simp; omega
        clear he hx hI
        go_wp2
        go_roundw
        case rel => exact ⟨k + 1, f, v, acc, rfl, rfl, by go_num, by omega, fun _ => by omega, by omega, hO, HI2, hB⟩
        case measure => simp [intOf]; omega
    · by_cases heq : k = s.size
      · subst heq
        have hfk' := hfk (Nat.le_refl _)
        have HI2 : Hid ((s.size + 1 ≤ s.size → (acc ++ [s.extract f s.size]) ++ splitGo s m (s.size - (s.size + 1)) (s.size + 1) (s.size + 1) = splitB s m) ∧ (s.size + 1 = s.size + 1 → acc ++ [s.extract f s.size] = splitB s m)) := by
          refine ⟨fun h => by omega, fun _ => ?_⟩
          rw [← hI.out.1 (Nat.le_refl _), Nat.sub_self, splitGo]
        clear hI
        have HA : Hid (kS.Own w.heap.size (wr.alloc (.cells #[.string (s.extract f s.size)] 9)) v acc) := hO.out.below (below1 _ _)
        have HN : Hid (kS.In (wr.heap.size + 1) (wr.alloc (.cells #[.string (s.extract f s.size)] 9)) (some ⟨wr.heap.size, 0, none⟩) [s.extract f s.size]) := text_one (by omega) (by simp)
        have hBa : Below w.heap.size w (wr.alloc (.cells #[.string (s.extract f s.size)] 9)) := Below.allocS hB _
        have hll : acc.length + 1 ≤ 4194304 := by omega
        go_wp2_with (at_builtin; refine Kind.app kS_ok (wr.alloc (.cells #[.string (s.extract f s.size)] 9)) rfl (.tmp 25) (.tmp 30) rfl w.heap.size v acc rfl HA.out (by simp; omega) (some ⟨wr.heap.size, 0, none⟩) [s.extract f s.size] 1 1 rfl rfl (by simp) _ HN.out hll ?_; intro v' w' hO' hB' hG' hn'; have hB2 : Below w.heap.size w w' := hBa.trans (hB'.mono (by omega)); have HO' : Hid (kS.Own w.heap.size w' v' (acc ++ [s.extract f s.size])) := hO'; clear hO' hB' hG' hn')
        go_roundw
        case rel => exact ⟨s.size + 1, s.size + 1, v', acc ++ [s.extract f s.size], rfl, by go_num, by go_num, by omega, fun h => by omega, by simp; omega, HO', HI2, hB2⟩
        case measure => simp [intOf] <;> omega
      · obtain rfl : k = s.size + 1 := by omega
        obtain rfl := hI.out.2 rfl
        obtain ⟨qo, qc, rfl, hn, hF⟩ := hO.out.fresh
        have HF := hid hF
        clear hF hO hI
        go_wp2
        go_ret
        exact ⟨⟨_, _, rfl, hn, HF.out⟩, hB⟩
theorem byteI_get {s : ByteArray} {k : Nat} (h : k < s.size) : ((s.get! k).toNat : Int) = byteI s k := by
  rw [byteI_at h]
  have : s.get! k = s[k] := by have := get_at s k h; simpa using this
  rw [this]
/-- A rune that is no letter of one byte skips no byte of one. -/
theorem decode_skip (s : ByteArray) (pos : Nat) (h : pos < s.size) (ha : 128 ≤ byteI s pos) : pos + (Utf8.decode s pos).2 ≤ s.size ∧ ∀ k, pos ≤ k → k < pos + (Utf8.decode s pos).2 → 128 ≤ byteI s k := by
  have ha' : ¬ (s[pos]'h).toNat < 128 := by rw [byteI_at h] at ha; omega
  have hb : ∀ k, k < s.size → (s.get! k).toNat / 64 = 2 → 128 ≤ byteI s k := fun k hk e => by
    have := byteI_get hk
    omega
  simp only [Utf8.decode, get_at s pos h, ha', if_false]
  have h1 : pos + 1 ≤ s.size ∧ ∀ k, pos ≤ k → k < pos + 1 → 128 ≤ byteI s k := ⟨by omega, fun k h1 h2 => by rw [show k = pos by omega]; exact ha⟩
  split
  · next c =>
    simp only [Bool.and_eq_true, beq_iff_eq, decide_eq_true_eq] at c
    split
    · refine ⟨by dsimp only; omega, fun k k1 k2 => ?_⟩
      dsimp only at k2
      rcases (show k = pos ∨ k = pos + 1 from by omega) with rfl | rfl
      · exact ha
      · exact hb _ c.2.1 c.2.2
    · exact h1
  · split
    · next c =>
      simp only [Bool.and_eq_true, beq_iff_eq, decide_eq_true_eq] at c
      split
      · refine ⟨by dsimp only; omega, fun k k1 k2 => ?_⟩
        dsimp only at k2
        rcases (show k = pos ∨ k = pos + 1 ∨ k = pos + 2 from by omega) with rfl | rfl | rfl
        · exact ha
        · exact hb _ c.1.2.1 c.1.2.2
        · exact hb _ c.2.1 c.2.2
      · exact h1
    · split
      · next c =>
        simp only [Bool.and_eq_true, beq_iff_eq, decide_eq_true_eq] at c
        split
        · refine ⟨by dsimp only; omega, fun k k1 k2 => ?_⟩
          dsimp only at k2
          rcases (show k = pos ∨ k = pos + 1 ∨ k = pos + 2 ∨ k = pos + 3 from by omega) with rfl | rfl | rfl | rfl
          · exact ha
          · exact hb _ c.1.1.2.1 c.1.1.2.2
          · exact hb _ c.1.2.1 c.1.2.2
          · exact hb _ c.2.1 c.2.2
        · exact h1
      · exact h1
/-- One step over runes: the mark, or none of what is skipped. -/
theorem rune_step (s : ByteArray) (pos : Nat) (m : Nat) (h : pos < s.size) (hm : m < 128) :
    ((Utf8.decode s pos).1 = m ∧ byteI s pos = (m : Int) ∧ (Utf8.decode s pos).2 = 1) ∨ ((Utf8.decode s pos).1 ≠ m ∧ 1 ≤ (Utf8.decode s pos).2 ∧ pos + (Utf8.decode s pos).2 ≤ s.size ∧ ∀ k, pos ≤ k → k < pos + (Utf8.decode s pos).2 → byteI s k ≠ (m : Int)) := by
  by_cases ha : (s[pos]'h).toNat < 128
  · rw [decode_ascii s pos h ha]
    by_cases he : (s[pos]'h).toNat = m
    · exact .inl ⟨he, by rw [byteI_at h]; omega, rfl⟩
    · refine .inr ⟨he, Nat.le_refl _, by dsimp only; omega, fun k h1 h2 => ?_⟩
      dsimp only at h2
      obtain rfl : k = pos := by omega
      rw [byteI_at h]; omega
  · have hk := decode_skip s pos h (by rw [byteI_at h]; omega)
    have hd := decode_high s pos h (by omega)
    exact .inr ⟨by omega, hd.2, hk.1, fun k h1 h2 => by have := hk.2 k h1 h2; omega⟩
set_option maxRecDepth 10000 in
set_option maxHeartbeats 4000000 in
theorem partsOf_is (s : ByteArray) (m : Nat) (w : World) (hs : s.size ≤ 1048576) (hm : m < 128) :
    Calls Tryd.prog 29 #[.string s, .int .i32 (m : Int)] w fun e w' => AnsS w (splitB s (m : Int)) e w' := by
  go_enter Tryd.func29, Tryd.ntmps29
  go_wp2
  go_loopw [5, 6] (fun u a wr => ∃ (k f : Nat) (v : Value) (acc : List ByteArray), v = u ∧ a = .int .i64 (f : Int) ∧ k ≤ s.size ∧ f ≤ k ∧ acc.length ≤ k ∧ wr.heap[w.heap.size]? = some (.stringIter s k) ∧ Hid (kS.Own (w.heap.size + 1) wr v acc) ∧ Hid (acc ++ splitGo s (m : Int) (s.size - k) k f = splitB s (m : Int)) ∧ Below w.heap.size w wr) (fun _ _ wr => s.size - wr.iterPos w.heap.size)
  case atStart => exact ⟨0, 0, _, [], rfl, rfl, Nat.zero_le _, Nat.le_refl _, Nat.le_refl _, World.iter_heap w s 0, Kind.Own.nil _ _ _, rfl, (Below.refl _ w).alloc (Nat.le_refl _) _⟩
  case round =>
    obtain ⟨k, f, v, acc, rfl, rfl, hk, hfk, hal, hit, hO, hI, hB⟩ := hrel
    have hs1 : w.heap.size < wr.heap.size := (Array.getElem?_eq_some_iff.1 hit).1
    by_cases hlt : k < s.size
    · have hnx : ∀ ty, (Instr.next (.pointer (some ⟨w.heap.size, 0, none⟩)) true ty).run Tryd.prog wr = _ := fun ty => Lib.run_next_any_at wr w.heap.size s k ty hit hlt
      have hd1 := decode_le s k
      have hit2 := Lib.iterAt_heap wr w.heap.size s k (k + (Utf8.decode s k).2) hit
      have hB1 := Lib.below_iterAt hB (k := w.heap.size) (Nat.le_refl _) s (k + (Utf8.decode s k).2)
      have hO1 : kS.Own (w.heap.size + 1) (wr.iterAt w.heap.size s (k + (Utf8.decode s k).2)) v acc := hO.out.keep fun j hj _ => Lib.iterAt_other _ _ _ _ _ (by omega)
      have hz1 : (wr.iterAt w.heap.size s (k + (Utf8.decode s k).2)).heap.size = wr.heap.size := Lib.iterAt_size _ _ _ _
      have hip : wr.iterPos w.heap.size = k := by simp [World.iterPos, hit]
      obtain ⟨W1, hW1⟩ : ∃ W1, W1 = wr.iterAt w.heap.size s (k + (Utf8.decode s k).2) := ⟨_, rfl⟩
      rw [← hW1] at hit2 hB1 hO1 hz1 hnx
      have HO1 := hid hO1
      have hsz : w.heap.size < W1.heap.size := by omega
      have HIP := hid hip
      clear hO hit hW1 hz1 hip hO1
      rcases rune_step s k m hlt hm with ⟨e1, e2, e3⟩ | ⟨e1, e2, e3, e4⟩
      · have HI2 : Hid ((acc ++ [s.extract f k]) ++ splitGo s (m : Int) (s.size - (k + 1)) (k + 1) (k + 1) = splitB s (m : Int)) := by
          rw [Hid, ← hI.out, show s.size - k = (s.size - (k + 1)) + 1 by omega, splitGo, if_pos e2]; simp
        rw [e3] at hit2
        rw [e1] at hnx
        clear e1 e2 e3 hI hd1
        have HA : Hid (kS.Own (w.heap.size + 1) (W1.alloc (.cells #[.string (s.extract f k)] 9)) v acc) := HO1.out.below (below1 _ _)
        have HN : Hid (kS.In (W1.heap.size + 1) (W1.alloc (.cells #[.string (s.extract f k)] 9)) (some ⟨W1.heap.size, 0, none⟩) [s.extract f k]) := text_one (by omega) (by simp)
        have hBa : Below w.heap.size w (W1.alloc (.cells #[.string (s.extract f k)] 9)) := Below.allocS hB1 _
        have hll : acc.length + 1 ≤ 4194304 := by omega
        go_wp2_with (at_builtin; refine Kind.app kS_ok (W1.alloc (.cells #[.string (s.extract f k)] 9)) rfl (.tmp 18) (.tmp 23) rfl (w.heap.size + 1) v acc rfl HA.out (by simp; omega) (some ⟨W1.heap.size, 0, none⟩) [s.extract f k] 1 1 rfl rfl (by simp) _ HN.out hll ?_; intro v' w' hO' hB' hG' hn'; have hB2 : Below w.heap.size w w' := hBa.trans (hB'.mono (by omega)); have HO' : Hid (kS.Own (w.heap.size + 1) w' v' (acc ++ [s.extract f k])) := hO'; have hit3 := hB'.block w.heap.size (by omega); clear hO' hB' hG' hn')
        rw [Below.heap_alloc _ _ _ hsz, hit2] at hit3
        go_roundw
        case rel => exact ⟨k + 1, k + 1, v', acc ++ [s.extract f k], rfl, by go_num, by omega, Nat.le_refl _, by simp; omega, hit3, HO', HI2, hB2⟩
        case measure =>
          have h3 : w'.iterPos w.heap.size = k + 1 := by simp [World.iterPos, hit3]
          rw [h3, HIP.out]; omega
      · have HI2 : Hid (acc ++ splitGo s (m : Int) (s.size - (k + (Utf8.decode s k).2)) (k + (Utf8.decode s k).2) f = splitB s (m : Int)) := by
          rw [Hid, ← hI.out, splitGo_skip s (m : Int) (Utf8.decode s k).2 (s.size - k) k f e4 (by omega), Nat.sub_sub]
        generalize (Utf8.decode s k).2 = d at *
        generalize (Utf8.decode s k).1 = r at *
        have e1' : ((r : Int) == (m : Int)) = false := by simp; omega
        clear e4 hI e1
        go_wp2
        go_roundw
        case rel => exact ⟨k + d, f, v, acc, rfl, rfl, by omega, by omega, by omega, hit2, HO1, HI2, hB1⟩
        case measure =>
          have h3 : W1.iterPos w.heap.size = k + d := by simp [World.iterPos, hit2]
          rw [h3, HIP.out]; omega
    · obtain rfl : k = s.size := by omega
      have hnx : ∀ ty, (Instr.next (.pointer (some ⟨w.heap.size, 0, none⟩)) true ty).run Tryd.prog wr = _ := fun ty => Lib.run_next_end_at wr w.heap.size s s.size ty hit hlt
      have HI2 : Hid (acc ++ [s.extract f s.size] = splitB s (m : Int)) := by rw [Hid, ← hI.out, Nat.sub_self, splitGo]
      have hB1 := hB
      clear hI hit
      have HA : Hid (kS.Own (w.heap.size + 1) (wr.alloc (.cells #[.string (s.extract f s.size)] 9)) v acc) := hO.out.below (below1 _ _)
      have HN : Hid (kS.In (wr.heap.size + 1) (wr.alloc (.cells #[.string (s.extract f s.size)] 9)) (some ⟨wr.heap.size, 0, none⟩) [s.extract f s.size]) := text_one (by omega) (by simp)
      have hBa : Below w.heap.size w (wr.alloc (.cells #[.string (s.extract f s.size)] 9)) := Below.allocS hB1 _
      have hll : acc.length + 1 ≤ 4194304 := by omega
      go_wp2_with (at_builtin; refine Kind.app kS_ok (wr.alloc (.cells #[.string (s.extract f s.size)] 9)) rfl (.tmp 27) (.tmp 31) rfl (w.heap.size + 1) v acc rfl HA.out (by simp; omega) (some ⟨wr.heap.size, 0, none⟩) [s.extract f s.size] 1 1 rfl rfl (by simp) _ HN.out hll ?_; intro v' w' hO' hB' hG' hn'; have hB2 : Below w.heap.size w w' := hBa.trans (hB'.mono (by omega)); have HO' : Hid (kS.Own (w.heap.size + 1) w' v' (splitB s (m : Int))) := (by rw [Hid, ← HI2.out]; exact hO'); obtain ⟨qo, qc, hv', hno, hF⟩ := HO'.out.fresh; subst hv'; have HF := hid hF; clear hF HO' hO' hB' hG' hn')
      go_ret
      exact ⟨⟨_, _, rfl, hno, HF.out.wide (by omega) (Nat.le_refl _)⟩, hB2⟩
end Go.Proofs.YtekadjjofcicaaaDoor
