/- Each is told once: the program. No conditions but those written. Closing a channel: the program. No conditions but those written. -/
import Derived.Test.YtdjdbcfcccbhpaaPKiYk
import Derived.Test.YtdjdbcfcccbhpaaPKeMq
import Derived.Test.YtdjdbcfcccbhpaaPKwBx
import Derived.Test.YtdjdbcfcccbhpaaKj
import Derived.Test.YtdjdbcfcccbhpaaPKbAo
namespace Go.Proofs.Ytdjdbcfcccbhpaa
section
open Go.RowKit Go.Maps

/-- One that is woken is told if it waits; then it waits no more. -/
def tellS (s : List (Int × Int × Int × Bool) × (Int → Int)) (x : Int × Int × Int × Bool) : List (Int × Int × Int × Bool) × (Int → Int) := if 0 < s.2 x.1 then (s.1 ++ [x], fun j => if j = x.1 then 0 else s.2 j) else s
/-- Those that are told, and who waits then. -/
def tellW (f : Int → Int) (l : List (Int × Int × Int × Bool)) : List (Int × Int × Int × Bool) × (Int → Int) := l.foldl tellS ([], f)
theorem tellW_nil (f : Int → Int) : tellW f [] = ([], f) := rfl
theorem tellW_succ (f : Int → Int) {l : List (Int × Int × Int × Bool)} {k : Nat} (h : k < l.length) : tellW f (l.take (k + 1)) = tellS (tellW f (l.take k)) (el l k) := by rw [take_succ_el h, tellW, List.foldl_append]; rfl
theorem tellS_len (s : List (Int × Int × Int × Bool) × (Int → Int)) (x : Int × Int × Int × Bool) : (tellS s x).1.length ≤ s.1.length + 1 := by unfold tellS; split <;> simp
theorem tellW_le (f : Int → Int) (l : List (Int × Int × Int × Bool)) (k : Nat) : (tellW f (l.take k)).1.length ≤ k := by
  induction k with
  | zero => simp [tellW]
  | succ k ih =>
    by_cases h : k < l.length
    · rw [tellW_succ f h]; have := tellS_len (tellW f (l.take k)) (el l k); omega
    · have e : l.take (k + 1) = l.take k := by rw [List.take_of_length_le (by omega), List.take_of_length_le (by omega)]
      rw [e]; omega
set_option maxRecDepth 10000 in
set_option maxHeartbeats 8000000 in
theorem tellOnce_any (lo : Option Addr) (lc : Nat) (l : List (Int × Int × Int × Bool)) (g n : Nat) (f : Int → Int) (w : World) (hl : l.length ≤ 1048576) (hz : kK.In g w lo l) (hM : MapF w g n f) (ht : ∀ x ∈ l, TaskN x.1) :
    Calls Try.prog 26 #[.map (some g), .slice lo l.length lc] w fun e w' => (∃ o c, e = .returned (.slice o (tellW f l).1.length c) ∧ kK.Fresh w.heap.size w'.heap.size w' o c (tellW f l).1) ∧ MapF w' g n (tellW f l).2 ∧ Below g w w' := by
  have HM := hid hM
  have HT := hid ht
  have hgl := hM.lt
  clear hM ht
  go_enter Try.func26, Try.ntmps26
  go_wp2
  go_loopw [5, 10] (fun u i wr => ∃ (k : Nat) (v : Value), v = u ∧ k ≤ l.length ∧ i = .int .i64 (k : Int) ∧ Hid (kK.Own w.heap.size wr v (tellW f (l.take k)).1) ∧ Hid (MapF wr g n (tellW f (l.take k)).2) ∧ Below g w wr) (fun _ i _ => l.length - (intOf i).toNat)
  case atStart => exact ⟨0, _, rfl, Nat.zero_le _, rfl, Kind.Own.nil _ _ _, HM, Below.refl _ _⟩
  case round =>
    obtain ⟨k, v, rfl, hk, rfl, hO, hMp, hB⟩ := hrel
    by_cases hlt : k < l.length
    · obtain ⟨bb, off, rfl, hbb, hc⟩ := kK_at hz hlt
      have d1 := (hB.cell (p := ⟨bb, off + k * 4, none⟩) hbb).trans (hc k hlt).1
      have d2 := (hB.cell (p := ⟨bb, off + k * 4 + 1, none⟩) hbb).trans (hc k hlt).2.1
      have d3 := (hB.cell (p := ⟨bb, off + k * 4 + 2, none⟩) hbb).trans (hc k hlt).2.2.1
      have d4 := (hB.cell (p := ⟨bb, off + k * 4 + 3, none⟩) hbb).trans (hc k hlt).2.2.2
      have htn := HT.out _ (el_mem hlt)
      have hsu := tellW_succ f hlt
      have hle := tellW_le f l k
      obtain ⟨⟨y1, y2, y3, y4⟩, ey⟩ : ∃ v, v = el l k := ⟨_, rfl⟩
      rw [← ey] at d1 d2 d3 d4 htn hsu
      obtain ⟨⟨T, F⟩, hTF⟩ : ∃ q, q = tellW f (l.take k) := ⟨_, rfl⟩
      rw [← hTF] at hO hMp hsu hle
      have HTN := hid htn
      clear ey hc htn hTF
      dsimp only at d1 d2 d3 d4 hle hO hMp
      have hs := hB.size
      have hcv : Hid (∀ q, v.ownBlock = some q → q ≠ wr.heap.size) := fun q e => by
        rcases hO.out.2 with ⟨e2, _⟩ | ⟨g, cc, cur2, e2, _, hh, _⟩
        · subst e2; simp [Value.ownBlock] at e
        · subst e2; simp [Value.ownBlock] at e; subst e
          have := (Array.getElem?_eq_some_iff.1 hh).1; omega
      have MA : Hid (MapF (wr.alloc (.cells #[.int .i64 y1, .int .i64 y2, .int .i64 y3, .bool y4] 58)) g n F) := hMp.out.later (below1 _ _)
      by_cases he : 0 < F y1
      · have he' : decide (0 < F y1) = true := by simpa using he
        have HS : Hid (tellW f (l.take (k + 1)) = (T ++ [(y1, y2, y3, y4)], fun j => if j = y1 then 0 else F j)) := by rw [Hid, hsu, tellS, if_pos he]
        have HA : Hid (kK.Own w.heap.size ((wr.alloc (.cells #[.int .i64 y1, .int .i64 y2, .int .i64 y3, .bool y4] 58)).alloc (.cells #[.int .i64 y1, .int .i64 y2, .int .i64 y3, .bool y4] 58)) v T) := (hO.out.below (below1 _ _)).below (below1 _ _)
        have MB : Hid (MapF ((wr.alloc (.cells #[.int .i64 y1, .int .i64 y2, .int .i64 y3, .bool y4] 58)).alloc (.cells #[.int .i64 y1, .int .i64 y2, .int .i64 y3, .bool y4] 58)) g n F) := MA.out.later (below1 _ _)
        have CB : Hid (Bx ((wr.alloc (.cells #[.int .i64 y1, .int .i64 y2, .int .i64 y3, .bool y4] 58)).alloc (.cells #[.int .i64 y1, .int .i64 y2, .int .i64 y3, .bool y4] 58)) wr.heap.size [.int .i64 y1, .int .i64 y2, .int .i64 y3, .bool y4]) := (Bx.new [.int .i64 y1, .int .i64 y2, .int .i64 y3, .bool y4] _ rfl).alloc _
        have HN : Hid (kK.In (wr.heap.size + 1 + 1) ((wr.alloc (.cells #[.int .i64 y1, .int .i64 y2, .int .i64 y3, .bool y4] 58)).alloc (.cells #[.int .i64 y1, .int .i64 y2, .int .i64 y3, .bool y4] 58)) (some ⟨wr.heap.size + 1, 0, none⟩) [(y1, y2, y3, y4)]) := kK_one (by omega) (by simp) (by simp) (by simp) (by simp)
        have hll : T.length + 1 ≤ 4194304 := by omega
        have hBa : Below g w ((wr.alloc (.cells #[.int .i64 y1, .int .i64 y2, .int .i64 y3, .bool y4] 58)).alloc (.cells #[.int .i64 y1, .int .i64 y2, .int .i64 y3, .bool y4] 58)) := (hB.trans ((below1 wr (.cells #[.int .i64 y1, .int .i64 y2, .int .i64 y3, .bool y4] 58)).mono (by omega))).trans ((below1 (wr.alloc (.cells #[.int .i64 y1, .int .i64 y2, .int .i64 y3, .bool y4] 58)) (.cells #[.int .i64 y1, .int .i64 y2, .int .i64 y3, .bool y4] 58)).mono (by simp; omega))
        clear he hsu
        go_wp2_with (first
          | (at_lookup; refine wpl_look _ rfl _ _ rfl g n F rfl MA.out y1 rfl HTN.out ?_)
          | (at_delete; refine wpl_del _ rfl _ _ rfl g n F rfl MC.out y1 rfl HTN.out ?_; intro w5 hM5 hO5; have hB5 : Below g w w5 := hB2.trans ((hO5.below (Nat.le_refl _)).mono (Nat.le_refl _)); have HO5 : Hid (kK.Own w.heap.size w5 v' (tellW f (l.take (k + 1))).1) := (by rw [Hid, HS.out]; exact HO'.out.keep fun q h1 _ => hO5.block q (by intro g' e; simp at e; omega)); have HM5 : Hid (MapF w5 g n (tellW f (l.take (k + 1))).2) := (by rw [Hid, HS.out]; exact hM5); clear hM5 hO5)
          | (at_builtin; refine Kind.app kK_ok ((wr.alloc (.cells #[.int .i64 y1, .int .i64 y2, .int .i64 y3, .bool y4] 58)).alloc (.cells #[.int .i64 y1, .int .i64 y2, .int .i64 y3, .bool y4] 58)) rfl (.tmp 19) (.tmp 21) rfl w.heap.size v T rfl HA.out (by simp; omega) (some ⟨wr.heap.size + 1, 0, none⟩) [(y1, y2, y3, y4)] 1 1 rfl rfl (by simp) _ HN.out hll ?_; intro v' w' hO' hB' hG' hn'; have hB2 : Below g w w' := hBa.trans (hB'.mono (by omega)); have HO' := hid hO'; have MC : Hid (MapF w' g n F) := MB.out.keep (hB'.block g (by omega)); have C5 := hid (CB.out.keep hG'.size (hG'.block wr.heap.size CB.out.1 (fun e => hcv.out wr.heap.size (by first | exact e | exact e.symm) rfl))); have c0 := C5.out.c 0 rfl; clear hO' hB' hG' hn')
          | go_in)
        go_roundw
        case rel => exact ⟨k + 1, v', rfl, by omega, by go_num, HO5, HM5, hB5⟩
        case measure => simp [intOf]; omega
      · have he' : decide (0 < F y1) = false := by simpa using he
        have HS : Hid (tellW f (l.take (k + 1)) = (T, F)) := by rw [Hid, hsu, tellS, if_neg he]
        have HO' : Hid (kK.Own w.heap.size (wr.alloc (.cells #[.int .i64 y1, .int .i64 y2, .int .i64 y3, .bool y4] 58)) v (tellW f (l.take (k + 1))).1) := by rw [Hid, HS.out]; exact hO.out.below (below1 _ _)
        have HM' : Hid (MapF (wr.alloc (.cells #[.int .i64 y1, .int .i64 y2, .int .i64 y3, .bool y4] 58)) g n (tellW f (l.take (k + 1))).2) := by rw [Hid, HS.out]; exact MA.out
        have hB2 := hB.trans ((below1 wr (.cells #[.int .i64 y1, .int .i64 y2, .int .i64 y3, .bool y4] 58)).mono (by omega))
        clear he hsu
        go_wp2_with (first
          | (at_lookup; refine wpl_look _ rfl _ _ rfl g n F rfl MA.out y1 rfl HTN.out ?_)
          | go_in)
        go_roundw
        case rel => exact ⟨k + 1, _, rfl, by omega, by go_num, HO', HM', hB2⟩
        case measure => simp [intOf]; omega
    · obtain rfl : k = l.length := by omega
      rw [List.take_length] at hO hMp
      obtain ⟨qo, qc, rfl, _, hF⟩ := hO.out.fresh
      have HF : Hid (kK.Fresh w.heap.size wr.heap.size wr qo qc (tellW f l).1) := hF
      clear hF hO
      go_wp2
      go_ret
      exact ⟨⟨_, _, rfl, HF.out⟩, hMp.out, hB⟩
end
section
open Go.RowKit

set_option maxHeartbeats 4000000 in
theorem wake_any (y1 y2 y3 v : Int) (ok : Bool) (w : World) :
    Calls Try.prog 42 #[.agg #[.int .i64 y1, .int .i64 y2, .int .i64 y3], .int .i64 v, .bool ok] w fun e w' => e = .returned (.agg #[.int .i64 y1, .int .i64 y2, .int .i64 v, .bool ok]) ∧ Below w.heap.size w w' := by
  go_enter Try.func42, Try.ntmps42
  go_wp2
  refine bodyPost_ret (v := .agg #[.int .i64 y1, .int .i64 y2, .int .i64 v, .bool ok]) (by simp [results, Try.results42, go_sem]) rfl ⟨rfl, ?_⟩
  exact below2 _ _ _
/-- Those that a closing wakes. -/
def wokeL (l : List (Int × Int × Int)) : List (Int × Int × Int × Bool) := l.map fun x => (x.1, x.2.1, 0, false)
theorem wokeL_app (a c : List (Int × Int × Int)) : wokeL (a ++ c) = wokeL a ++ wokeL c := by simp [wokeL]
theorem wokeL_len (l : List (Int × Int × Int)) : (wokeL l).length = l.length := by simp [wokeL]
set_option maxRecDepth 100000 in
set_option maxHeartbeats 16000000 in
theorem implClose_any (kap : Int) (bo : Option Addr) (bc : Nat) (b : List Int) (so : Option Addr) (sc : Nat) (s : List (Int × Int × Int)) (ro : Option Addr) (rc : Nat) (r : List (Int × Int × Int)) (w : World) (hlb : b.length ≤ 1048576) (hls : s.length ≤ 1048576) (hlr : r.length ≤ 1048576) (hz : InChan w.heap.size w bo b so s ro r) (hg : goodP (kap, false, b, s, r) = true) :
    Calls Try.prog 23 #[.agg #[.int .i64 kap, .bool false, .slice bo b.length bc, .slice so s.length sc, .slice ro r.length rc]] w fun e w' => (∃ bo' bc' wo wc, e = .returned (.tuple #[.agg #[.int .i64 kap, .bool true, .slice bo' b.length bc', .slice none 0 0, .slice none 0 0], .slice wo (wokeL (r ++ s)).length wc, .int .i64 0]) ∧ kI.Fresh w.heap.size w'.heap.size w' bo' bc' b ∧ kK.Fresh w.heap.size w'.heap.size w' wo wc (wokeL (r ++ s))) ∧ Below w.heap.size w w' := by
  obtain ⟨V0, hV0⟩ : ∃ V0, V0 = (w.alloc (.cells #[.int .i64 kap, .bool false, .slice bo b.length bc, .slice so s.length sc, .slice ro r.length rc] 45)).alloc (.cells #[.int .i64 0, .bool false, .slice none 0 0, .slice none 0 0, .slice none 0 0] 45) := ⟨_, rfl⟩
  have hB0 : Below w.heap.size w V0 := by rw [hV0]; exact below2 _ _ _
  have A0 : Hid (Bx V0 w.heap.size [.int .i64 kap, .bool false, .slice bo b.length bc, .slice so s.length sc, .slice ro r.length rc]) := by rw [hV0]; exact (Bx.new [.int .i64 kap, .bool false, .slice bo b.length bc, .slice so s.length sc, .slice ro r.length rc] _ rfl).alloc _
  have R0 : Hid (Bx V0 (w.heap.size + 1) [.int .i64 0, .bool false, .slice none 0 0, .slice none 0 0, .slice none 0 0]) := by rw [hV0]; exact Bx.new [.int .i64 0, .bool false, .slice none 0 0, .slice none 0 0, .slice none 0 0] _ (by simp)
  have hs0 : (w.heap.size + 1 + 1) ≤ V0.heap.size := by rw [hV0]; simp
  have HV0 := hid hV0
  clear hV0
  go_enter Try.func23, Try.ntmps23
  go_wp2_with fail
  rw [← HV0.out]
  refine (implGoodC_is kap false bo bc b so sc s ro rc r V0 true hlb hls hlr (hz.later hB0) hg).mono ?_
  rintro e w1 ⟨rfl, hb1⟩
  have hB1 := hB0.trans (hb1.mono hB0.size)
  have A1 := hid (A0.out.later hb1)
  have R1 := hid (R0.out.later hb1)
  have hs1 : (w.heap.size + 1 + 1) ≤ w1.heap.size := Nat.le_trans hs0 hb1.size
  have a1 := A1.out.c 1 rfl
  have a4 := A1.out.c 4 rfl
  clear hb1 A0 R0 HV0
  go_wp2
  clear a1 a4
  go_loopw [5, 21] (fun u i wr => ∃ (k : Nat) (v : Value), v = u ∧ k ≤ r.length ∧ i = .int .i64 (k : Int) ∧ Hid (kK.Own (w.heap.size + 1 + 1) wr v (wokeL (r.take k))) ∧ Hid (Bx wr w.heap.size [.int .i64 kap, .bool false, .slice bo b.length bc, .slice so s.length sc, .slice ro r.length rc]) ∧ Hid (Bx wr (w.heap.size + 1) [.int .i64 0, .bool false, .slice none 0 0, .slice none 0 0, .slice none 0 0]) ∧ Below w.heap.size w wr ∧ (w.heap.size + 1 + 1) ≤ wr.heap.size) (fun _ i _ => r.length - (intOf i).toNat)
  case atStart => exact ⟨0, _, rfl, Nat.zero_le _, rfl, Kind.Own.nil _ _ _, A1, R1, hB1, hs1⟩
  case round =>
    obtain ⟨k, v, rfl, hk, rfl, hO, hA, hR, hB, hs⟩ := hrel
    by_cases hlt : k < r.length
    · obtain ⟨bb, off, rfl, hbb, hc⟩ := kW_at hz.2.2 hlt
      have d1 := (hB.cell (p := ⟨bb, off + k * 3, none⟩) hbb).trans (hc k hlt).1
      have d2 := (hB.cell (p := ⟨bb, off + k * 3 + 1, none⟩) hbb).trans (hc k hlt).2.1
      have d3 := (hB.cell (p := ⟨bb, off + k * 3 + 2, none⟩) hbb).trans (hc k hlt).2.2
      have htk := take_succ_el hlt
      obtain ⟨⟨y1, y2, y3⟩, ey⟩ : ∃ v, v = el r k := ⟨_, rfl⟩
      rw [← ey] at d1 d2 d3 htk
      have HS : Hid (wokeL (r.take (k + 1)) = wokeL (r.take k) ++ [(y1, y2, 0, false)]) := by rw [Hid, htk, wokeL_app]; rfl
      clear ey hc htk
      dsimp only at d1 d2 d3
      obtain ⟨VV, hVV⟩ : ∃ VV, VV = wr.alloc (.cells #[.int .i64 y1, .int .i64 y2, .int .i64 y3] 70) := ⟨_, rfl⟩
      have hbV : Below wr.heap.size wr VV := by rw [hVV]; exact below1 _ _
      have hBV := hB.trans (hbV.mono hB.size)
      have OV := hid (hO.out.below hbV)
      have AV := hid (hA.out.later hbV)
      have RV := hid (hR.out.later hbV)
      have hsV : (w.heap.size + 1 + 1) ≤ VV.heap.size := Nat.le_trans hs hbV.size
      have hll : (wokeL (r.take k)).length + 1 ≤ 4194304 := by rw [wokeL_len]; simp; omega
      have HVV := hid hVV
      clear hbV hVV hO hA hR
      go_wp2_with fail
      rw [← HVV.out]
      refine (wake_any y1 y2 y3 0 false VV).mono ?_
      rintro e w4 ⟨rfl, hb4⟩
      have hB4 := hBV.trans (hb4.mono hBV.size)
      have hs4 : (w.heap.size + 1 + 1) ≤ w4.heap.size := Nat.le_trans hsV hb4.size
      have HA := hid ((OV.out.below hb4).below (below1 w4 (.cells #[.int .i64 y1, .int .i64 y2, .int .i64 0, .bool false] 58)))
      have AA := hid ((AV.out.later hb4).alloc (.cells #[.int .i64 y1, .int .i64 y2, .int .i64 0, .bool false] 58))
      have RA := hid ((RV.out.later hb4).alloc (.cells #[.int .i64 y1, .int .i64 y2, .int .i64 0, .bool false] 58))
      have hBa := Below.allocS hB4 (.cells #[.int .i64 y1, .int .i64 y2, .int .i64 0, .bool false] 58)
      have HN : Hid (kK.In (w4.heap.size + 1) (w4.alloc (.cells #[.int .i64 y1, .int .i64 y2, .int .i64 0, .bool false] 58)) (some ⟨w4.heap.size, 0, none⟩) [(y1, y2, 0, false)]) := kK_one (by omega) (by simp) (by simp) (by simp) (by simp)
      clear hb4 OV AV RV HVV d1 d2 d3
      go_wp2_with (at_builtin; refine Kind.app kK_ok (w4.alloc (.cells #[.int .i64 y1, .int .i64 y2, .int .i64 0, .bool false] 58)) rfl (.tmp 25) (.tmp 28) rfl (w.heap.size + 1 + 1) v (wokeL (r.take k)) rfl HA.out (by simp; omega) (some ⟨w4.heap.size, 0, none⟩) [(y1, y2, 0, false)] 1 1 rfl rfl (by simp) _ HN.out (by simpa using hll) ?_; intro v' w' hO' hB' hG' hn'; have hB2 : Below w.heap.size w w' := hBa.trans (hB'.mono (by omega)); have HO' : Hid (kK.Own (w.heap.size + 1 + 1) w' v' (wokeL (r.take (k + 1)))) := (by rw [Hid, HS.out]; exact hO'); have A5 := hid (AA.out.below hB' (by omega)); have R5 := hid (RA.out.below hB' (by omega)); have hs5 : (w.heap.size + 1 + 1) ≤ w'.heap.size := (by have := hB'.size; simp at this; omega); clear hO' hB' hG' hn')
      go_roundw
      case rel => exact ⟨k + 1, v', rfl, by omega, by go_num, HO', A5, R5, hB2, hs5⟩
      case measure => simp [intOf]; omega
    · obtain rfl : k = r.length := by omega
      rw [List.take_length] at hO
      have HO2 := hO
      have A2 := hA
      have R2 := hR
      have hB2 := hB
      have hs2 := hs
      have a3 := A2.out.c 3 rfl
      clear hO hA hR hB hs
      go_wp2
      clear a3
      go_loopw [5, 34] (fun u i wr => ∃ (k : Nat) (v : Value), v = u ∧ k ≤ s.length ∧ i = .int .i64 (k : Int) ∧ Hid (kK.Own (w.heap.size + 1 + 1) wr v (wokeL (r ++ s.take k))) ∧ Hid (Bx wr w.heap.size [.int .i64 kap, .bool false, .slice bo b.length bc, .slice so s.length sc, .slice ro r.length rc]) ∧ Hid (Bx wr (w.heap.size + 1) [.int .i64 0, .bool false, .slice none 0 0, .slice none 0 0, .slice none 0 0]) ∧ Below w.heap.size w wr ∧ (w.heap.size + 1 + 1) ≤ wr.heap.size) (fun _ i _ => s.length - (intOf i).toNat)
      case atStart => exact ⟨0, _, rfl, Nat.zero_le _, rfl, by simpa using HO2, A2, R2, hB2, hs2⟩
      case round =>
        obtain ⟨k, v, rfl, hk, rfl, hO, hA, hR, hB, hs⟩ := hrel
        by_cases hlt : k < s.length
        · obtain ⟨bb, off, rfl, hbb, hc⟩ := kW_at hz.2.1 hlt
          have d1 := (hB.cell (p := ⟨bb, off + k * 3, none⟩) hbb).trans (hc k hlt).1
          have d2 := (hB.cell (p := ⟨bb, off + k * 3 + 1, none⟩) hbb).trans (hc k hlt).2.1
          have d3 := (hB.cell (p := ⟨bb, off + k * 3 + 2, none⟩) hbb).trans (hc k hlt).2.2
          have htk := take_succ_el hlt
          obtain ⟨⟨y1, y2, y3⟩, ey⟩ : ∃ v, v = el s k := ⟨_, rfl⟩
          rw [← ey] at d1 d2 d3 htk
          have HS : Hid (wokeL (r ++ s.take (k + 1)) = wokeL (r ++ s.take k) ++ [(y1, y2, 0, false)]) := by rw [Hid, htk, ← List.append_assoc, wokeL_app]; rfl
          clear ey hc htk
          dsimp only at d1 d2 d3
          obtain ⟨VV, hVV⟩ : ∃ VV, VV = wr.alloc (.cells #[.int .i64 y1, .int .i64 y2, .int .i64 y3] 70) := ⟨_, rfl⟩
          have hbV : Below wr.heap.size wr VV := by rw [hVV]; exact below1 _ _
          have hBV := hB.trans (hbV.mono hB.size)
          have OV := hid (hO.out.below hbV)
          have AV := hid (hA.out.later hbV)
          have RV := hid (hR.out.later hbV)
          have hsV : (w.heap.size + 1 + 1) ≤ VV.heap.size := Nat.le_trans hs hbV.size
          have hll : (wokeL (r ++ s.take k)).length + 1 ≤ 4194304 := by rw [wokeL_len]; simp; omega
          have HVV := hid hVV
          clear hbV hVV hO hA hR
          go_wp2_with fail
          rw [← HVV.out]
          refine (wake_any y1 y2 y3 0 false VV).mono ?_
          rintro e w4 ⟨rfl, hb4⟩
          have hB4 := hBV.trans (hb4.mono hBV.size)
          have hs4 : (w.heap.size + 1 + 1) ≤ w4.heap.size := Nat.le_trans hsV hb4.size
          have HA := hid ((OV.out.below hb4).below (below1 w4 (.cells #[.int .i64 y1, .int .i64 y2, .int .i64 0, .bool false] 58)))
          have AA := hid ((AV.out.later hb4).alloc (.cells #[.int .i64 y1, .int .i64 y2, .int .i64 0, .bool false] 58))
          have RA := hid ((RV.out.later hb4).alloc (.cells #[.int .i64 y1, .int .i64 y2, .int .i64 0, .bool false] 58))
          have hBa := Below.allocS hB4 (.cells #[.int .i64 y1, .int .i64 y2, .int .i64 0, .bool false] 58)
          have HN : Hid (kK.In (w4.heap.size + 1) (w4.alloc (.cells #[.int .i64 y1, .int .i64 y2, .int .i64 0, .bool false] 58)) (some ⟨w4.heap.size, 0, none⟩) [(y1, y2, 0, false)]) := kK_one (by omega) (by simp) (by simp) (by simp) (by simp)
          clear hb4 OV AV RV HVV d1 d2 d3
          go_wp2_with (at_builtin; refine Kind.app kK_ok (w4.alloc (.cells #[.int .i64 y1, .int .i64 y2, .int .i64 0, .bool false] 58)) rfl (.tmp 38) (.tmp 41) rfl (w.heap.size + 1 + 1) v (wokeL (r ++ s.take k)) rfl HA.out (by simp; omega) (some ⟨w4.heap.size, 0, none⟩) [(y1, y2, 0, false)] 1 1 rfl rfl (by simp) _ HN.out (by simpa using hll) ?_; intro v' w' hO' hB' hG' hn'; have hB2 : Below w.heap.size w w' := hBa.trans (hB'.mono (by omega)); have HO' : Hid (kK.Own (w.heap.size + 1 + 1) w' v' (wokeL (r ++ s.take (k + 1)))) := (by rw [Hid, HS.out]; exact hO'); have A5 := hid (AA.out.below hB' (by omega)); have R5 := hid (RA.out.below hB' (by omega)); have hs5 : (w.heap.size + 1 + 1) ≤ w'.heap.size := (by have := hB'.size; simp at this; omega); clear hO' hB' hG' hn')
          go_roundw
          case rel => exact ⟨k + 1, v', rfl, by omega, by go_num, HO', A5, R5, hB2, hs5⟩
          case measure => simp [intOf]; omega
        · obtain rfl : k = s.length := by omega
          rw [List.take_length] at hO
          obtain ⟨qo, qc, rfl, _, hF⟩ := hO.out.fresh
          have HF := hid hF
          have a0 := hA.out.c 0 rfl
          have a2 := hA.out.c 2 rfl
          have r0 := hR.out.c 0 rfl
          have r1 := hR.out.c 1 rfl
          have r2 := hR.out.c 2 rfl
          have r3 := hR.out.c 3 rfl
          have r4 := hR.out.c 4 rfl
          clear hF hO
          go_wp2
          go_region_with (first
            | (go_at_call 43; refine (copyListI_any bo bc b _ hlb (by exact hz.1.later hB.drew)).mono ?_; rintro e w6 ⟨⟨go1, rfl, hF1⟩, hbx⟩; have hb6 : Below wr.heap.size wr w6 := (Below.refl wr.heap.size wr).drew.trans hbx; have hB6 := hB.trans (hb6.mono hB.size); have F6 := hid (HF.out.later hb6); have G6 : Hid (kI.Fresh wr.heap.size w6.heap.size w6 go1 b.length b) := hF1; have A6 := hid (hA.out.later hb6); have R6 := hid (hR.out.later hb6); have hz6 := hb6.size; clear hbx hF1 hb6 r0 r1 r2 r3 r4; have q0 := A6.out.c 0 rfl; have r0 := R6.out.c 0 rfl; have r1 := R6.out.c 1 rfl; have r2 := R6.out.c 2 rfl; have r3 := R6.out.c 3 rfl; have r4 := R6.out.c 4 rfl; have f0 := R6.out.f 0 rfl; have f1 := R6.out.f 1 rfl; have f2 := R6.out.f 2 rfl; have f3 := R6.out.f 3 rfl; have f4 := R6.out.f 4 rfl; have rz := R6.out.size))
          all_goals
            go_wp2
            refine bodyPost_ret (v := .tuple #[.agg #[.int .i64 kap, .bool true, .slice go1 b.length b.length, .slice none 0 0, .slice none 0 0], .slice qo (wokeL (r ++ s)).length qc, .int .i64 0]) (by simp [results, Try.results23, go_sem, r0, r1, r2, r3, r4]) rfl ⟨⟨go1, _, qo, qc, rfl, ?_, ?_⟩, ?_⟩
            · exact Kind.Fresh.wide (((((G6.out.setBelow (a := ⟨w.heap.size + 1, 0, none⟩) (by dsimp only; omega) _).setBelow (a := ⟨w.heap.size + 1, 1, none⟩) (by dsimp only; omega) _).setBelow (a := ⟨w.heap.size + 1, 2, none⟩) (by dsimp only; omega) _).setBelow (a := ⟨w.heap.size + 1, 3, none⟩) (by dsimp only; omega) _).setBelow (a := ⟨w.heap.size + 1, 4, none⟩) (by dsimp only; omega) _) (by omega) (by simp [World.setCell])
            · exact Kind.Fresh.wide (((((F6.out.setBelow (a := ⟨w.heap.size + 1, 0, none⟩) (by dsimp only; omega) _).setBelow (a := ⟨w.heap.size + 1, 1, none⟩) (by dsimp only; omega) _).setBelow (a := ⟨w.heap.size + 1, 2, none⟩) (by dsimp only; omega) _).setBelow (a := ⟨w.heap.size + 1, 3, none⟩) (by dsimp only; omega) _).setBelow (a := ⟨w.heap.size + 1, 4, none⟩) (by dsimp only; omega) _) (by omega) (by simp [World.setCell]; omega)
            · exact ((((hB6.setCell (p := ⟨w.heap.size + 1, 0, none⟩) (by dsimp only; omega) _).setCell (p := ⟨w.heap.size + 1, 1, none⟩) (by dsimp only; omega) _).setCell (p := ⟨w.heap.size + 1, 2, none⟩) (by dsimp only; omega) _).setCell (p := ⟨w.heap.size + 1, 3, none⟩) (by dsimp only; omega) _).setCell (p := ⟨w.heap.size + 1, 4, none⟩) (by dsimp only; omega) _
end
end Go.Proofs.Ytdjdbcfcccbhpaa
