
/- A number read: the two sides are one. No conditions but those written. -/
import Derived.Test.YtekadjjofcicaaaDoorTpd
namespace Go.Proofs.YtekadjjofcicaaaDoor
open Go.RowKit

theorem ba_toList_inj {a b : ByteArray} (h : a.toList = b.toList) : a = b := by
  rw [Lib.toList_data, Lib.toList_data] at h
  exact ba_ext h
theorem l13Number_is (s : ByteArray) (w : World) (hs : s.size ≤ 1048576) :
    Calls Tryd.prog 28 #[.string s] w fun e w' => e = .returned (.tuple #[.int .i64 (numR s).1, .bool (numR s).2]) ∧ w' = w := by
  by_cases h : ∃ h0 : 0 < s.size, (s[0]'h0).toNat = 45
  · obtain ⟨h0, h45⟩ := h
    have hd : (s.extract 1 s.size).data.toList = s.data.toList.drop 1 := by
      rw [extract_list, List.take_of_length_le]
      rw [List.length_drop, Array.length_toList]; exact Nat.le_refl _
    have hh : s.data.toList.head? = some 45 := by
      rw [head_byte h0]; exact congrArg some (UInt8.toNat_inj.1 (by rw [h45]; rfl))
    refine (negNum_is s w hs h0 h45 _ rfl).mono fun e w' hh2 => ⟨?_, hh2.2⟩
    rw [hh2.1, hd]
    by_cases hn : numD (s.data.toList.drop 1) true = true
    · rw [if_pos hn, numR_yes (by rw [numL, if_pos hh, if_pos hn])]
    · rw [if_neg hn, numR_no (by rw [numL, if_pos hh, if_neg hn])]
  · have h45 : ∀ h0 : 0 < s.size, (s[0]'h0).toNat ≠ 45 := fun h0 e => h ⟨h0, e⟩
    have hh : s.data.toList.head? ≠ some 45 := by
      intro e
      by_cases h0 : 0 < s.size
      · rw [head_byte h0] at e
        exact h45 h0 (by rw [Option.some.inj e]; rfl)
      · have : s.data.toList = [] := List.length_eq_zero_iff.1 (by rw [Array.length_toList]; have : s.data.size = s.size := rfl; omega)
        rw [this] at e; cases e
    refine (posNum_is s w hs h45).mono fun e w' hh2 => ⟨?_, hh2.2⟩
    rw [hh2.1]
    by_cases hn : numD s.data.toList false = true
    · rw [if_pos hn, numR_yes (by rw [numL, if_neg hh, if_pos hn])]
    · rw [if_neg hn, numR_no (by rw [numL, if_neg hh, if_neg hn])]
shelf_lay LaysC.n172 Nm 172 at Tryd as Tryd.laysAtoi
/-- The library's errors of numbers lie as they were laid. -/
structure NErr (w : World) : Prop where
  s : ∃ te pe, w.cell? ⟨3, 0, none⟩ = some (.iface te pe)
  r : ∃ te pe, w.cell? ⟨4, 0, none⟩ = some (.iface te pe)
theorem NErr.later {w w' : World} (h : NErr w) (hb : Below w.heap.size w w') : NErr w' := by
  obtain ⟨⟨a, b, h1⟩, ⟨c, d, h2⟩⟩ := h
  exact ⟨⟨a, b, (hb.cell (p := ⟨3, 0, none⟩) (World.block_lt_of_cell? _ _ h1)).trans h1⟩, ⟨c, d, (hb.cell (p := ⟨4, 0, none⟩) (World.block_lt_of_cell? _ _ h2)).trans h2⟩⟩
/-- What Atoi answers, and a number or an error beside it. -/
theorem atoi_any (s : ByteArray) (w : World) (hs : s.size ≤ 1048576) (hE : NErr w) :
    Calls Tryd.prog 50 #[.string s] w fun e w' => (∃ (v : Int) (ev : Value), e = .returned (.tuple #[.int .i64 v, ev]) ∧ ((Lib.atoiAll s.data.toList = .ok v ∧ ev = .nilIface) ∨ ((∀ n, Lib.atoiAll s.data.toList ≠ .ok n) ∧ ∃ T N, ev = .iface T (.pointer (some ⟨N, 0, none⟩))))) ∧ Below w.heap.size w w' := by
  cases h : Lib.atoiAll s.data.toList
  · rename_i v
    refine (Any.strconv_Atoi_ok Tryd.laysAtoi s (by omega) v h w).mono fun e w' hh => ?_
    obtain ⟨he, hw⟩ := hh
    refine ⟨⟨v, .nilIface, he, .inl ⟨rfl, rfl⟩⟩, ?_⟩
    rcases hw with rfl | ⟨t, rfl⟩
    · exact Below.refl _ _
    · exact Lib.bytesWorld_below _ _ _
  · obtain ⟨te, pe, hc⟩ := hE.s
    refine (Any.strconv_Atoi_syntax Tryd.laysAtoi s (by omega) h _ w hc (.inr ⟨te, pe, rfl⟩)).mono fun e w' hh => ?_
    obtain ⟨N, he, _, _, hb⟩ := hh
    exact ⟨⟨_, _, he, .inr ⟨fun n => by simp, _, N, rfl⟩⟩, hb⟩
  · obtain ⟨te, pe, hc⟩ := hE.r
    refine (Any.strconv_Atoi_range Tryd.laysAtoi s (by omega) h _ w hc (.inr ⟨te, pe, rfl⟩)).mono fun e w' hh => ?_
    obtain ⟨N, he, _, _, hb⟩ := hh
    exact ⟨⟨_, _, he, .inr ⟨fun n => by simp, _, N, rfl⟩⟩, hb⟩
theorem num_none_err {s : List UInt8} (h : ∀ n, Lib.atoiAll s ≠ .ok n) : numL s = none := by
  cases hn : numL s with
  | none => rfl
  | some n =>
    obtain ⟨e, h0, h1⟩ := itoa_numL hn
    exact absurd (by rw [← e]; exact atoi_itoa h0 h1) (h n)
theorem num_none_far {s : List UInt8} {v : Int} (h : Lib.atoiAll s = .ok v) (hf : v < -9999999 ∨ 9999999 < v ∨ Lib.itoa v ≠ s) : numL s = none := by
  cases hn : numL s with
  | none => rfl
  | some n =>
    obtain ⟨e, h0, h1⟩ := itoa_numL hn
    have h2 := atoi_itoa h0 h1
    rw [e, h] at h2
    obtain rfl : v = n := by simpa using h2
    rcases hf with hf | hf | hf
    · omega
    · omega
    · exact absurd e hf
set_option maxRecDepth 10000 in
set_option maxHeartbeats 4000000 in
theorem readNumber_is (s : ByteArray) (w : World) (hs : s.size ≤ 1048576) (hT : PowTab w) (hE : NErr w) :
    Calls Tryd.prog 31 #[.string s] w fun e w' => e = .returned (.tuple #[.int .i64 (numR s).1, .bool (numR s).2]) ∧ Below w.heap.size w w' := by
  obtain ⟨⟨z, y⟩, hR⟩ : ∃ R, numR s = R := ⟨_, rfl⟩
  rw [hR]
  dsimp only
  have HR := hid hR
  have HA := hid (atoi_any s w hs hE)
  have HT := hid hT
  clear hR hE hT
  go_enter Tryd.func31, Tryd.ntmps31
  go_wp2_with fail
  refine HA.out.mono ?_
  rintro e w1 ⟨⟨v, ev, rfl, hcase⟩, hb1⟩
  rcases hcase with ⟨hok, rfl⟩ | ⟨hno, T, N, rfl⟩
  · by_cases h1 : v < -9999999
    · have HN := numR_no (num_none_far hok (.inl h1))
      rw [HR.out] at HN
      obtain ⟨rfl, rfl⟩ : z = 0 ∧ y = false := by simpa using HN
      go_wp2
      exact bodyPost_ret (v := .tuple #[.int .i64 0, .bool false]) (by simp [results, Tryd.results31, go_sem]) rfl ⟨rfl, hb1⟩
    · by_cases h2 : 9999999 < v
      · have HN := numR_no (num_none_far hok (.inr (.inl h2)))
        rw [HR.out] at HN
        obtain ⟨rfl, rfl⟩ : z = 0 ∧ y = false := by simpa using HN
        go_wp2
        exact bodyPost_ret (v := .tuple #[.int .i64 0, .bool false]) (by simp [results, Tryd.results31, go_sem]) rfl ⟨rfl, hb1⟩
      · have HI := hid (itoa_any v (by omega) (by omega) w1 (HT.out.later hb1))
        by_cases h3 : Lib.itoa v = s.data.toList
        · have HN := numR_yes (s := s) (n := v) (by rw [← h3]; exact numL_itoa v (by omega) (by omega))
          rw [HR.out] at HN
          obtain ⟨rfl, rfl⟩ : z = v ∧ y = true := by simpa using HN
          have hs2 : tx (Lib.itoa z) = s := by rw [h3]; rfl
          rw [hs2] at HI
          have hne : (s.toList != s.toList) = false := by simp
          clear hs2 h3 HN
          go_wp2_with fail
          refine HI.out.mono ?_
          rintro e w2 ⟨rfl, hb2⟩
          go_wp2
          exact bodyPost_ret (v := .tuple #[.int .i64 z, .bool true]) (by simp [results, Tryd.results31, go_sem]) rfl ⟨rfl, hb1.trans (hb2.mono hb1.size)⟩
        · have HN := numR_no (num_none_far hok (.inr (.inr h3)))
          rw [HR.out] at HN
          obtain ⟨rfl, rfl⟩ : z = 0 ∧ y = false := by simpa using HN
          have hne : ((tx (Lib.itoa v)).toList != s.toList) = true := by
            simp only [bne_iff_ne, ne_eq]
            intro e
            apply h3
            have e2 := ba_toList_inj e
            rw [← e2]; rfl
          have hne2 : ((tx (Lib.itoa v)).toList == s.toList) = false := by simpa using hne
          have hne3 : (tx (Lib.itoa v)).toList ≠ s.toList := by simpa using hne
          generalize tx (Lib.itoa v) = t at HI hne hne2 hne3
          clear h3 HN
          go_wp2_with fail
          refine HI.out.mono ?_
          rintro e w2 ⟨rfl, hb2⟩
          go_wp2
          exact bodyPost_ret (v := .tuple #[.int .i64 0, .bool false]) (by simp [results, Tryd.results31, go_sem]) rfl ⟨rfl, hb1.trans (hb2.mono hb1.size)⟩
  · have HN := numR_no (num_none_err hno)
    rw [HR.out] at HN
    obtain ⟨rfl, rfl⟩ : z = 0 ∧ y = false := by simpa using HN
    go_wp2
    exact bodyPost_ret (v := .tuple #[.int .i64 0, .bool false]) (by simp [results, Tryd.results31, go_sem]) rfl ⟨rfl, hb1⟩
end Go.Proofs.YtekadjjofcicaaaDoor
