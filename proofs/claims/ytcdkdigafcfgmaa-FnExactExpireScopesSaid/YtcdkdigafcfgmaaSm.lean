/- CancelScope and ExpireScopes: the specification. No conditions but those written. -/
import Derived.Test.YtcdkdigafcfgmaaSk
import Derived.Test.YtcdkdigafcfgmaaSl
namespace Go.Proofs.Ytcdkdigafcfgmaa
open Go.RowKit

theorem Try.info4 : (Try.prog.info? 4).map (fun i => (i.zero, i.size, i.bytes)) = some (some (.bool false), 1, 1) := by kernel_rfl
theorem bools_made {w : World} {lo g n : Nat} (h : w.ownsRow lo 4 1 (.slice (some ⟨g, 0, none⟩) n n) n (madeCells (Value.bool false).cells (n * 1)).toList) : BoolsIn w g n (fun _ => false) := fun i hi => by
  refine ⟨?_, h.frozenAt i⟩
  rw [h.cellAt i (by omega)]
  have : (madeCells (Value.bool false).cells (n * 1)).toList = List.replicate (n * 1) (.bool false) := toList_madeCells_one _ _
  rw [this]; simp [hi]
set_option maxRecDepth 10000 in
set_option maxHeartbeats 4000000 in
theorem specCancel_any (ao : Option Addr) (cap : Nat) (l : List Sc) (iv : Int) (w : World) (hl : l.length ≤ 1048576) (hno : ao = none → cap = 0) (hz : kS.In w.heap.size w ao l) :
    Calls Try.prog 51 #[.slice ao l.length cap, .int .i64 iv] w fun e w' => AnsC w (cancelR l iv) e w' := by
  cases hg : scopesB l
  · have HG := hid hg
    have HR : Hid (cancelR l iv = ([], [], 2)) := cancelR_bad hg
    clear hg
    go_enter Try.func51, Try.ntmps51
    go_wp2_with fail
    refine (specGoodScopes_is ao cap l w false hl hz HG.out).mono ?_
    rintro e w1 ⟨rfl, hB1⟩
    go_wp2
    refine bodyPost_ret (v := .tuple #[.slice none 0 0, .slice none 0 0, .int .i64 2]) (by simp [results, Try.results51, go_sem]) rfl ?_
    rw [HR.out]
    exact ⟨⟨none, 0, none, 0, rfl, .inl rfl, .inl rfl⟩, hB1⟩
  have HG := hid hg
  have h20 := (scopesB_good hg).1
  cases hi : (decide (0 ≤ iv) && decide (iv ≤ (l.length : Int) - 1))
  · have HI := hid hi
    have HR : Hid (cancelR l iv = ([], [], 2)) := cancelR_none (by simp at hi; omega)
    clear hg hi
    go_enter Try.func51, Try.ntmps51
    go_wp2_with fail
    refine (specGoodScopes_is ao cap l w true hl hz HG.out).mono ?_
    rintro e w1 ⟨rfl, hB1⟩
    go_wp2_with fail
    refine (l1In_is iv 0 ((l.length : Int) - 1) _ false HI.out).mono ?_
    rintro e w2 ⟨rfl, hw2⟩
    rw [hw2]
    clear hw2 w2
    go_wp2
    refine bodyPost_ret (v := .tuple #[.slice none 0 0, .slice none 0 0, .int .i64 2]) (by simp [results, Try.results51, go_sem]) rfl ?_
    rw [HR.out]
    exact ⟨⟨none, 0, none, 0, rfl, .inl rfl, .inl rfl⟩, hB1⟩
  have HI := hid hi
  have hin : 0 ≤ iv ∧ iv < l.length := by simp at hi; omega
  clear hi
  obtain ⟨k, rfl⟩ : ∃ k : Nat, iv = k := ⟨iv.toNat, by omega⟩
  have hk : k < l.length := by omega
  have hkI : (k : Int) < (l.length : Int) := by omega
  have HZ := hid hz
  obtain ⟨b, off, rfl, hb0, hc⟩ := kS_at hz hk
  have c0 := (hc k hk).2.2
  obtain ⟨z, ez⟩ : ∃ z, z = (el l k).2.2 := ⟨_, rfl⟩
  rw [← ez] at c0
  have HEZ := hid ez
  clear hc ez hin
  by_cases hz0 : z = 0
  · have hz0' : (z != 0) = false := by simpa using hz0
    have HR : Hid (cancelR l k = ((endTo (isB k) 1 l l.length).1, (endTo (isB k) 1 l l.length).2, 0)) := cancelR_done hg hk (by rw [← HEZ.out]; exact hz0)
    have HE0 : Hid (∀ i, i < l.length → ends0 (isB k) l i = (if i = k then true else false)) := fun i _ => by
      by_cases e : i = k
      · subst e
        rw [ends0, ← HEZ.out, hz0]; simp [isB]
      · have h1 : isB k i (el l i) = false := by simp [isB]; omega
        rw [ends0, h1, if_neg e]; simp
    have HGG := hid (scopesB_good hg).2
    obtain ⟨i0, hi, hz0, hz1, hz2⟩ := info_parts Try.info4
    clear hg
    go_enter Try.func51, Try.ntmps51
    go_wp2_with fail
    refine (specGoodScopes_is (some ⟨b, off, none⟩) cap l w true hl hz HG.out).mono ?_
    rintro e w1 ⟨rfl, hB1⟩
    go_wp2_with fail
    refine (l1In_is k 0 ((l.length : Int) - 1) _ true HI.out).mono ?_
    rintro e w2 ⟨rfl, hw2⟩
    rw [hw2]
    clear hw2 w2
    have cz := (hB1.cell (p := ⟨b, off + k * 3 + 2, none⟩) hb0).trans c0
    go_wp2_with (at_make; refine wpList_make_full _ rfl _ _ 121 rfl w.heap.size 4 i0 (.bool false) 1 Try.underlying121 hi hz0 hz1 .i64 .i64 _ _ l.length rfl rfl rfl rfl (by rw [hz2]; omega) (by unfold maxLen; omega) hB1.size ?_; intro w2 hown hgrow; have hb2 : Below w1.heap.size w1 w2 := below_of_grown hgrow; have hB2 := hB1.trans (hb2.mono hB1.size); have hge := (owns_lt hown).2; have E0 : Hid (BoolsIn w2 w1.heap.size l.length (fun _ => false)) := bools_made hown; clear hown hgrow; have e1 := (E0.out k hk).1; have e2 := (E0.out k hk).2; have cz2 := (hb2.cell (p := ⟨b, off + k * 3 + 2, none⟩) (Nat.lt_of_lt_of_le hb0 hB1.size)).trans cz)
    have E1 : Hid (BoolsIn (w2.setCell ⟨w1.heap.size, k, none⟩ (.bool true)) w1.heap.size l.length (ends0 (isB k) l)) := (E0.out.set k true).same fun i hi => HE0.out i hi
    have hB3 : Below w.heap.size w (w2.setCell ⟨w1.heap.size, k, none⟩ (.bool true)) := hB2.setCell (p := ⟨w1.heap.size, k, none⟩) hB1.size _
    have Z3 : Hid (kS.In w.heap.size (w2.setCell ⟨w1.heap.size, k, none⟩ (.bool true)) (some ⟨b, off, none⟩) l) := HZ.out.below hB3
    refine (l5End_any (isB k) (some ⟨b, off, none⟩) cap l w1.heap.size 1 w.heap.size _ h20 (by decide) hno hB1.size (by simpa using hge) E1.out Z3.out HGG.out).mono ?_
    rintro e w4 ⟨⟨o, c, o', c', rfl, hF1, hF2⟩, hb4⟩
    have HF := hid (And.intro hF1 hF2)
    have hB4 := hB3.trans hb4
    have hs3 : w.heap.size ≤ (w2.setCell ⟨w1.heap.size, k, none⟩ (.bool true)).heap.size := hB3.size
    clear hF1 hF2 hb4
    go_wp2
    refine bodyPost_ret (v := .tuple #[.slice o l.length c, .slice o' (endTo (isB k) 1 l l.length).2.length c', .int .i64 0]) (by simp [results, Try.results51, go_sem]) rfl ?_
    rw [HR.out]
    exact ⟨⟨o, c, o', c', by rw [endTo_len], HF.out.1.wide hs3 (Nat.le_refl _), HF.out.2.wide hs3 (Nat.le_refl _)⟩, hB4⟩
  · have hz0' : (z != 0) = true := by simpa using hz0
    have HR : Hid (cancelR l k = (l, [], 4)) := cancelR_busy hg hk (by rw [← HEZ.out]; exact hz0)
    clear hg hz0
    go_enter Try.func51, Try.ntmps51
    go_wp2_with fail
    refine (specGoodScopes_is (some ⟨b, off, none⟩) cap l w true hl hz HG.out).mono ?_
    rintro e w1 ⟨rfl, hB1⟩
    go_wp2_with fail
    refine (l1In_is k 0 ((l.length : Int) - 1) _ true HI.out).mono ?_
    rintro e w2 ⟨rfl, hw2⟩
    rw [hw2]
    clear hw2 w2
    have cz := (hB1.cell (p := ⟨b, off + k * 3 + 2, none⟩) hb0).trans c0
    have HE : Hid (kS.Own w.heap.size (w1.alloc (.cells #[] 104)) (.slice (some ⟨w1.heap.size, 0, none⟩) 0 0) []) := Kind.Own.new kS _ w1 hB1.size
    have HZ1 : Hid (kS.In w1.heap.size (w1.alloc (.cells #[] 104)) (some ⟨b, off, none⟩) l) := (hz.later hB1).below (below1 _ _)
    have hBe := Below.allocS hB1 (.cells #[] 104)
    go_wp2_with (at_builtin; refine Kind.app kS_ok (w1.alloc (.cells #[] 104)) rfl (.tmp 27) (.tmp 28) rfl w.heap.size (.slice (some ⟨w1.heap.size, 0, none⟩) 0 0) [] rfl HE.out hBe.size (some ⟨b, off, none⟩) l l.length cap rfl rfl hno _ HZ1.out (by simp; omega) ?_; intro v3 w3 hO3 hB3 hG3 hn3; obtain ⟨g, c, rfl, hF3⟩ := hO3.some (hn3 some_ne); rw [List.nil_append] at hF3; have hB4 : Below w.heap.size w w3 := hBe.trans hB3; have HF3 := hid hF3; clear hO3 hB3 hG3 hn3 hF3 HE HZ1 hBe)
    refine bodyPost_ret (v := .tuple #[.slice (some ⟨g, 0, none⟩) l.length c, .slice none 0 0, .int .i64 4]) (by simp [results, Try.results51, go_sem]) rfl ?_
    rw [HR.out]
    exact ⟨⟨_, c, none, 0, rfl, HF3.out, .inl rfl⟩, hB4⟩

set_option maxRecDepth 10000 in
set_option maxHeartbeats 4000000 in
theorem specExpire_any (ao : Option Addr) (cap : Nat) (l : List Sc) (iv : Int) (w : World) (hl : l.length ≤ 1048576) (hno : ao = none → cap = 0) (hz : kS.In w.heap.size w ao l) :
    Calls Try.prog 53 #[.slice ao l.length cap, .int .i64 iv] w fun e w' => AnsE w (expireR l iv) e w' := by
  cases hg : scopesB l
  · have HG := hid hg
    have HR : Hid (expireR l iv = ([], [], false)) := expireR_bad hg
    clear hg
    go_enter Try.func53, Try.ntmps53
    go_wp2_with fail
    refine (specGoodScopes_is ao cap l w false hl hz HG.out).mono ?_
    rintro e w1 ⟨rfl, hB1⟩
    go_wp2
    refine bodyPost_ret (v := .tuple #[.slice none 0 0, .slice none 0 0, .bool false]) (by simp [results, Try.results53, go_sem]) rfl ?_
    rw [HR.out]
    exact ⟨⟨none, 0, none, 0, rfl, .inl rfl, .inl rfl⟩, hB1⟩
  have HG := hid hg
  have h20 := (scopesB_good hg).1
  have HR : Hid (expireR l iv = ((endTo (dueB iv) 2 l l.length).1, (endTo (dueB iv) 2 l l.length).2, true)) := expireR_good hg
  have HGG := hid (scopesB_good hg).2
  obtain ⟨i0, hi, hz0, hz1, hz2⟩ := info_parts Try.info4
  clear hg
  go_enter Try.func53, Try.ntmps53
  go_wp2_with fail
  refine (specGoodScopes_is ao cap l w true hl hz HG.out).mono ?_
  rintro e w1 ⟨rfl, hB1⟩
  go_wp2_with (at_make; refine wpList_make_full _ rfl _ _ 121 rfl w.heap.size 4 i0 (.bool false) 1 Try.underlying121 hi hz0 hz1 .i64 .i64 _ _ l.length rfl rfl rfl rfl (by rw [hz2]; omega) (by unfold maxLen; omega) hB1.size ?_; intro w2 hown hgrow; have hb2 : Below w1.heap.size w1 w2 := below_of_grown hgrow; have hB2 := hB1.trans (hb2.mono hB1.size); have hge := (owns_lt hown).2; have E0 : Hid (BoolsIn w2 w1.heap.size l.length (fun _ => false)) := bools_made hown; clear hown hgrow; skip)
  clear hi hz0 hz1 hz2 hb2
  go_loopw [20] (fun i wr => ∃ k : Nat, k ≤ l.length ∧ i = .int .i64 k ∧ Hid (BoolsIn wr w1.heap.size l.length (fun j => if j < k then ends0 (dueB iv) l j else false)) ∧ Below w.heap.size w wr ∧ w1.heap.size < wr.heap.size) (fun i _ => l.length - (intOf i).toNat)
  case atStart => exact ⟨0, Nat.zero_le _, rfl, hid (E0.out.same fun i _ => by simp), hB2, hge⟩
  case round =>
    obtain ⟨k, hk, rfl, hE, hB, hsz⟩ := hrel
    by_cases hlt : k < l.length
    · obtain ⟨b, off, rfl, hb0, hc⟩ := kS_at hz hlt
      have d1 := (hB.cell (p := ⟨b, off + k * 3, none⟩) hb0).trans (hc k hlt).1
      have d2 := (hB.cell (p := ⟨b, off + k * 3 + 1, none⟩) hb0).trans (hc k hlt).2.1
      have d3 := (hB.cell (p := ⟨b, off + k * 3 + 2, none⟩) hb0).trans (hc k hlt).2.2
      obtain ⟨⟨y1, y2, y3⟩, ey⟩ : ∃ v, v = el l k := ⟨_, rfl⟩
      rw [← ey] at d1 d2 d3
      have HY : Hid (el l k = (y1, y2, y3)) := ey.symm
      clear ey hc
      dsimp only at d1 d2 d3
      have ck := hE.out k hlt
      obtain ⟨ck1, ck2⟩ := ck
      dsimp only at ck1
      rw [if_neg (Nat.lt_irrefl k)] at ck1
      have hkI : (k : Int) < (l.length : Int) := by omega
      have fin : ∀ x, ends0 (dueB iv) l k = x → Hid (BoolsIn ((wr.setCell ⟨w1.heap.size, k, none⟩ (.bool x)).alloc (.cells #[.int .i64 y1, .int .i64 y2, .int .i64 y3] 104)) w1.heap.size l.length (fun j => if j < k + 1 then ends0 (dueB iv) l j else false)) := fun x hx =>
        hid (BoolsIn.keep ((hE.out.set k x).same fun i _ => by
          by_cases e : i = k
          · subst e; simp [hx]
          · simp only [if_neg e]
            by_cases e2 : i < k
            · rw [if_pos e2, if_pos (by omega)]
            · rw [if_neg e2, if_neg (by omega)]) ((below1 _ _).block _ (by simpa using hsz)))
      have hBx : ∀ x, Below w.heap.size w ((wr.setCell ⟨w1.heap.size, k, none⟩ (.bool x)).alloc (.cells #[.int .i64 y1, .int .i64 y2, .int .i64 y3] 104)) := fun x => Below.allocS (hB.setCell (p := ⟨w1.heap.size, k, none⟩) hB1.size _) _
      have HFIN := hid fin
      have HBX := hid hBx
      clear fin hBx
      by_cases hy : y3 = 0
      · have hy' : (y3 == 0) = true := by simpa using hy
        obtain ⟨x, hx⟩ : ∃ x, decide (y2 ≤ iv) = x := ⟨_, rfl⟩
        have HX : Hid (ends0 (dueB iv) l k = x) := by rw [Hid, ends0, HY.out]; dsimp only; rw [hy', dueB]; simpa using hx
        clear hy
        go_wp2
        go_roundw
        case rel => exact ⟨k + 1, by omega, by go_num, HFIN.out _ HX.out, HBX.out _, by simp; omega⟩
        case measure => simp [intOf]; omega
      · have hy' : (y3 == 0) = false := by simpa using hy
        have HX : Hid (ends0 (dueB iv) l k = false) := by rw [Hid, ends0, HY.out]; dsimp only; rw [hy']; rfl
        clear hy
        go_wp2
        go_roundw
        case rel => exact ⟨k + 1, by omega, by go_num, HFIN.out _ HX.out, HBX.out _, by simp; omega⟩
        case measure => simp [intOf]; omega
    · obtain rfl : k = l.length := by omega
      have E1 : Hid (BoolsIn wr w1.heap.size l.length (ends0 (dueB iv) l)) := hid (hE.out.same fun i hi => by rw [if_pos hi])
      have Z3 : Hid (kS.In w.heap.size wr ao l) := hid (hz.below hB)
      go_wp2_with fail
      refine (l5End_any (dueB iv) ao cap l w1.heap.size 2 w.heap.size wr h20 (by decide) hno hB1.size hsz E1.out Z3.out HGG.out).mono ?_
      rintro e w4 ⟨⟨o, c, o', c', rfl, hF1, hF2⟩, hb4⟩
      have HF := hid (And.intro hF1 hF2)
      have hB4 := hB.trans hb4
      have hs3 := hB.size
      clear hF1 hF2 hb4
      go_wp2
      refine bodyPost_ret (v := .tuple #[.slice o l.length c, .slice o' (endTo (dueB iv) 2 l l.length).2.length c', .bool true]) (by simp [results, Try.results53, go_sem]) rfl ?_
      rw [HR.out]
      exact ⟨⟨o, c, o', c', by rw [endTo_len], HF.out.1.wide hs3 (Nat.le_refl _), HF.out.2.wide hs3 (Nat.le_refl _)⟩, hB4⟩
end Go.Proofs.Ytcdkdigafcfgmaa
