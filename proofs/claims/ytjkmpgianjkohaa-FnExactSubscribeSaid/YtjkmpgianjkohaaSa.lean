
/- Subscribe, the program. No conditions but those written. -/
import Derived.Test.YtjkmpgianjkohaaTx
import Derived.Test.YtjkmpgianjkohaaTr
import Derived.Test.YtjkmpgianjkohaaIi
import Derived.Deep.Cut
namespace Go.Proofs.Ytjkmpgianjkohaa
open Go.RowKit

/-- What Subscribe answers. -/
def subR (sd : Int) (ps : List PSub) (id sz : Int) (dr : Bool) : Int × List PSub × Int :=
  if topicB sd ps && sizeB sz then
    if thB ps id then (sd, ps, 2)
    else if ps.length = 10 then (sd, ps, 3)
    else (sd, ps.take (pl ps id) ++ [((id, sz, dr, 0, []) : PSub)] ++ ps.drop (pl ps id), 0)
  else (0, [], 1)
/-- A topic in its own memory and a number, as an ending. -/
def AnsS (w : World) (r : Int × List PSub × Int) (e : Ending) (w' : World) : Prop := (∃ o c us, e = .returned (.tuple #[.agg #[.int .i64 r.1, .slice o r.2.1.length c], .int .i64 r.2.2]) ∧ us.map valSub = r.2.1 ∧ DFr dSub w.heap.size w'.heap.size w' o c us) ∧ Below w.heap.size w w'
theorem el_ins {us : List LSub} {x : LSub} {k j : Nat} (hk : k ≤ us.length) : el (us.take k ++ [x] ++ us.drop k) j = if j < k then el us j else if j = k then x else el us (j - 1) := by
  have hl : (us.take k).length = k := by simp; omega
  split
  · rename_i h
    rw [List.append_assoc, el_app_left (by rw [hl]; exact h), el_take h]
  · rename_i h
    split
    · rename_i h2
      subst h2
      rw [List.append_assoc]
      have := el_app_right (us.take j) ([x] ++ us.drop j) 0
      rw [hl, Nat.add_zero] at this
      rw [this]; exact el_zero _ _
    · rename_i h2
      have := el_app_right (us.take k ++ [x]) (us.drop k) (j - (k + 1))
      have hl2 : (us.take k ++ [x]).length = k + 1 := by simp; omega
      rw [hl2, show k + 1 + (j - (k + 1)) = j by omega, el_drop] at this
      rw [this]
      congr 1
      omega
theorem ins_fr {lo hi hi2 : Nat} {W : World} {o go : Option Addr} {c qc : Nat} {us : List LSub} {id sz : Int} {dr : Bool} {k : Nat} (h : DFr dSub lo hi W o c us) (hk : k ≤ us.length) (hH : hSub.Fresh lo hi2 W go qc (us.take k ++ [((id, sz, dr, 0, (none, 0, [])) : LSub)] ++ us.drop k)) (hh : hi ≤ hi2) : DFr dSub lo hi2 W go qc (us.take k ++ [((id, sz, dr, 0, (none, 0, [])) : LSub)] ++ us.drop k) := by
  have hll : (us.take k ++ [((id, sz, dr, 0, (none, 0, [])) : LSub)] ++ us.drop k).length = us.length + 1 := by simp; omega
  have hno : ∀ b, ¬ dSub.own ((id, sz, dr, 0, (none, 0, [])) : LSub) b := fun b hb => by have : 0 < ([] : List Int).length := hb.1; simp at this
  refine ⟨hH, fun j hj => ?_, fun i j hij hj b h1 h2 => ?_⟩
  · rw [hll] at hj
    rw [el_ins hk]
    split
    · exact dSub_ok.wide (h.2.1 j (by omega)) (Nat.le_refl _) hh
    · split
      · exact Kind.Fresh.nil kI lo hi2 W none 0
      · exact dSub_ok.wide (h.2.1 (j - 1) (by omega)) (Nat.le_refl _) hh
  · rw [hll] at hj
    rw [el_ins hk] at h1 h2
    split at h1
    · split at h2
      · exact h.2.2 i j hij (by omega) b h1 h2
      · split at h2
        · exact hno b h2
        · exact h.2.2 i (j - 1) (by omega) (by omega) b h1 h2
    · split at h1
      · exact hno b h1
      · rw [if_neg (by omega), if_neg (by omega)] at h2
        exact h.2.2 (i - 1) (j - 1) (by omega) (by omega) b h1 h2
theorem map_ins {us : List LSub} {ps : List PSub} {id sz : Int} {dr : Bool} {k : Nat} (h : us.map valSub = ps) : (us.take k ++ [((id, sz, dr, 0, (none, 0, [])) : LSub)] ++ us.drop k).map valSub = ps.take k ++ [((id, sz, dr, 0, []) : PSub)] ++ ps.drop k := by
  rw [List.map_append, List.map_append, List.map_take, List.map_drop, h]; rfl
set_option maxRecDepth 10000 in
set_option maxHeartbeats 16000000 in
theorem implSubs_any (sd : Int) (ao : Option Addr) (cap : Nat) (ts : List LSub) (id sz : Int) (dr : Bool) (w : World) (hl : ts.length ≤ 1048576) (hf : Fits ts) (hz : DIn dSub w.heap.size w ao ts) :
    Calls Try.prog 12 #[.agg #[.int .i64 sd, .slice ao ts.length cap], .int .i64 id, .int .i64 sz, .bool dr] w fun e w' => AnsS w (subR sd (ts.map valSub) id sz dr) e w' := by
  have HZ := hid hz
  have HF := hid hf
  clear hz hf
  obtain ⟨V, hV⟩ : ∃ V, V = (w.alloc (.cells #[.int .i64 sd, .slice ao ts.length cap] 29)).alloc (.cells #[.int .i64 0, .slice none 0 0] 29) := ⟨_, rfl⟩
  have hB0 : Below w.heap.size w V := by rw [hV]; exact below2 _ _ _
  have A0 : Hid (Bx V w.heap.size [.int .i64 sd, .slice ao ts.length cap]) := by rw [hV]; exact (Bx.new [.int .i64 sd, .slice ao ts.length cap] _ rfl).alloc _
  have R0 : Hid (Bx V (w.heap.size + 1) [.int .i64 0, .slice none 0 0]) := by rw [hV]; exact Bx.new [.int .i64 0, .slice none 0 0] _ (by simp)
  have HS : Hid (V.heap.size = w.heap.size + 1 + 1) := by rw [hV]; simp [Hid]
  have HV := hid hV
  have hlm : (ts.map valSub).length = ts.length := by simp
  have HLM := hid hlm
  clear hV hlm
  cases hg : topicB sd (ts.map valSub)
  · have HG := hid hg
    have HR : Hid (subR sd (ts.map valSub) id sz dr = (0, [], 1)) := by rw [Hid, subR, hg]; rfl
    clear hg
    go_enter Try.func12, Try.ntmps12
    go_wp2_with fail
    rw [← HV.out]
    refine (implGood_is sd ao cap ts V false hl HF.out (HZ.out.later dSub_ok hB0) HG.out).mono ?_
    rintro e w1 ⟨rfl, hb1⟩
    have hB1 := hB0.trans (hb1.mono hB0.size)
    have hV1 := hb1.size
    have A1 := hid (A0.out.later hb1)
    have R1 := hid (R0.out.later hb1)
    have a0 := A1.out.c 0 rfl
    have a1 := A1.out.c 1 rfl
    have r0 := R1.out.c 0 rfl
    have rf0 := R1.out.f 0 rfl
    have r1 := R1.out.c 1 rfl
    have rf1 := R1.out.f 1 rfl
    clear hb1 A0 R0
    have rz := R1.out.size
    go_wp2
    refine bodyPost_ret (v := .tuple #[.agg #[.int .i64 0, .slice none 0 0], .int .i64 1]) (by simp [results, Try.results12, go_sem, r0, r1]) rfl ?_
    rw [HR.out]
    exact ⟨⟨none, 0, [], rfl, rfl, DFr.nil _ _ _ _ _⟩, (hB1.setCell (p := ⟨w.heap.size + 1, 0, none⟩) (by dsimp only; omega) _).setCell (p := ⟨w.heap.size + 1, 1, none⟩) (by dsimp only; omega) _⟩
  have HG := hid hg
  clear hg
  cases hs : sizeB sz
  · have HSZ := hid hs
    have HR : Hid (subR sd (ts.map valSub) id sz dr = (0, [], 1)) := by rw [Hid, subR, HG.out, hs]; rfl
    clear hs
    go_enter Try.func12, Try.ntmps12
    go_wp2_with fail
    rw [← HV.out]
    refine (implGood_is sd ao cap ts V true hl HF.out (HZ.out.later dSub_ok hB0) HG.out).mono ?_
    rintro e w1 ⟨rfl, hb1⟩
    have hB1 := hB0.trans (hb1.mono hB0.size)
    have hV1 := hb1.size
    have A1 := hid (A0.out.later hb1)
    have R1 := hid (R0.out.later hb1)
    have a0 := A1.out.c 0 rfl
    have a1 := A1.out.c 1 rfl
    have r0 := R1.out.c 0 rfl
    have rf0 := R1.out.f 0 rfl
    have r1 := R1.out.c 1 rfl
    have rf1 := R1.out.f 1 rfl
    clear hb1 A0 R0
    go_wp2_with fail
    refine (goodSize_is sz w1 false HSZ.out).mono ?_
    rintro e ws ⟨rfl, hws⟩
    rw [hws]; clear hws ws
    have rz := R1.out.size
    go_wp2
    refine bodyPost_ret (v := .tuple #[.agg #[.int .i64 0, .slice none 0 0], .int .i64 1]) (by simp [results, Try.results12, go_sem, r0, r1]) rfl ?_
    rw [HR.out]
    exact ⟨⟨none, 0, [], rfl, rfl, DFr.nil _ _ _ _ _⟩, (hB1.setCell (p := ⟨w.heap.size + 1, 0, none⟩) (by dsimp only; omega) _).setCell (p := ⟨w.heap.size + 1, 1, none⟩) (by dsimp only; omega) _⟩
  have HSZ := hid hs
  clear hs
  cases ht : thB (ts.map valSub) id
  case true =>
    have HT := hid ht
    have HR : Hid (subR sd (ts.map valSub) id sz dr = (sd, ts.map valSub, 2)) := by rw [Hid, subR, HG.out, HSZ.out, ht]; rfl
    clear ht
    go_enter Try.func12, Try.ntmps12
    go_wp2_with fail
    rw [← HV.out]
    refine (implGood_is sd ao cap ts V true hl HF.out (HZ.out.later dSub_ok hB0) HG.out).mono ?_
    rintro e w1 ⟨rfl, hb1⟩
    have hB1 := hB0.trans (hb1.mono hB0.size)
    have hV1 := hb1.size
    have A1 := hid (A0.out.later hb1)
    have R1 := hid (R0.out.later hb1)
    have a0 := A1.out.c 0 rfl
    have a1 := A1.out.c 1 rfl
    have r0 := R1.out.c 0 rfl
    have rf0 := R1.out.f 0 rfl
    have r1 := R1.out.c 1 rfl
    have rf1 := R1.out.f 1 rfl
    clear hb1 A0 R0
    go_wp2_with fail
    refine (goodSize_is sz w1 true HSZ.out).mono ?_
    rintro e ws ⟨rfl, hws⟩
    rw [hws]; clear hws ws
    go_wp2_with fail
    refine (copyTopic_any sd ao cap ts w1 hl HF.out (HZ.out.later dSub_ok hB1)).mono ?_
    rintro e w2 ⟨⟨to1, us, rfl, hv2, hD2⟩, hb2⟩
    rw [List.length_map] at hD2 ⊢
    have HU := hid hv2
    have hul := len_val hv2
    have HUL := hid hul
    have D2 := hid hD2
    have A2 := hid (A1.out.later hb2)
    have R2 := hid (R1.out.later hb2)
    have hB2 := hB1.trans (hb2.mono hB1.size)
    have hV2 := Nat.le_trans hV1 hb2.size
    have hs12 : w1.heap.size ≤ w2.heap.size := hb2.size
    clear A1 R1 a0 a1 r0 rf0 r1 rf1 hv2 hD2 hul hb2 hB1
    obtain ⟨w3, hw3⟩ : ∃ V, V = w2.alloc (.cells #[.int .i64 sd, .slice to1 ts.length ts.length] 29) := ⟨_, rfl⟩
    have hb3 : Below w2.heap.size w2 w3 := by rw [hw3]; exact below1 _ _
    have P3 : Hid (Bx w3 w2.heap.size [.int .i64 sd, .slice to1 ts.length ts.length]) := by rw [hw3]; exact Bx.new [.int .i64 sd, .slice to1 ts.length ts.length] _ rfl
    have A3 := hid (A2.out.later hb3)
    have R3 := hid (R2.out.later hb3)
    have D3 := hid (D2.out.later dSub_ok hb3)
    have hB3 := hB2.trans (hb3.mono hB2.size)
    have hs3 : w2.heap.size < w3.heap.size := P3.out.size
    have pa0 := A2.out.c 0 rfl
    have pa1 := A2.out.c 1 rfl
    have paz := A2.out.size
    have HW3 := hid hw3
    clear hw3 hb3 A2 R2 D2 hB2
    go_wp2_with fail
    rw [← HW3.out]
    clear pa0 pa1 paz
    refine (placeOf_is sd ao cap ts id w3 hl (HZ.out.later dSub_ok hB3).1).mono ?_
    rintro e w4 ⟨rfl, hb4⟩
    have P4 := hid (P3.out.later hb4)
    have A4 := hid (A3.out.later hb4)
    have R4 := hid (R3.out.later hb4)
    have D4 := hid (D3.out.later dSub_ok hb4)
    have hB4 := hB3.trans (hb4.mono hB3.size)
    have hs4 : w2.heap.size < w4.heap.size := P4.out.size
    clear hb4 P3 A3 R3 D3 hB3 hs3
    rw [HT.out]
    have p0 := P4.out.c 0 rfl
    have p1 := P4.out.c 1 rfl
    have r0 := R4.out.c 0 rfl
    have rf0 := R4.out.f 0 rfl
    have r1 := R4.out.c 1 rfl
    have rf1 := R4.out.f 1 rfl
    have rz := R4.out.size
    go_wp2
    refine bodyPost_ret (v := .tuple #[.agg #[.int .i64 sd, .slice to1 ts.length ts.length], .int .i64 2]) (by simp [results, Try.results12, go_sem, r0, r1]) rfl ?_
    rw [HR.out]
    refine ⟨⟨to1, ts.length, us, by rw [HLM.out], HU.out, ?_⟩, (hB4.setCell (p := ⟨w.heap.size + 1, 0, none⟩) (by dsimp only; omega) _).setCell (p := ⟨w.heap.size + 1, 1, none⟩) (by dsimp only; omega) _⟩
    have hsv := HS.out
    exact DFr.wide dSub_ok (DFr.keep dSub_ok D4.out fun q h1 _ _ => by rw [Below.heap_setCell _ _ _ _ (by dsimp only; omega), Below.heap_setCell _ _ _ _ (by dsimp only; omega)]) (by omega) (by simp [World.setCell]; omega)
  have HT := hid ht
  have HTB := hid ht
  have hPL := (pl_is (ts.map valSub) id)
  have hkn : pl (ts.map valSub) id ≤ ts.length := by have := hPL.1; rw [HLM.out] at this; exact this
  obtain ⟨k, hk⟩ : ∃ k, k = pl (ts.map valSub) id := ⟨_, rfl⟩
  have HK := hid hk
  rw [← hk] at hkn hPL
  have HKN := hid hkn
  have HPL := hid hPL
  clear ht hk hkn hPL
  by_cases h10 : ts.length = 10
  · have HR : Hid (subR sd (ts.map valSub) id sz dr = (sd, ts.map valSub, 3)) := by rw [Hid, subR, HG.out, HSZ.out, HTB.out, HLM.out, h10]; rfl
    have h10' : ((ts.length : Int) == 10) = true := by simp; omega
    clear h10
    go_enter Try.func12, Try.ntmps12
    go_wp2_with fail
    rw [← HV.out]
    refine (implGood_is sd ao cap ts V true hl HF.out (HZ.out.later dSub_ok hB0) HG.out).mono ?_
    rintro e w1 ⟨rfl, hb1⟩
    have hB1 := hB0.trans (hb1.mono hB0.size)
    have hV1 := hb1.size
    have A1 := hid (A0.out.later hb1)
    have R1 := hid (R0.out.later hb1)
    have a0 := A1.out.c 0 rfl
    have a1 := A1.out.c 1 rfl
    have r0 := R1.out.c 0 rfl
    have rf0 := R1.out.f 0 rfl
    have r1 := R1.out.c 1 rfl
    have rf1 := R1.out.f 1 rfl
    clear hb1 A0 R0
    go_wp2_with fail
    refine (goodSize_is sz w1 true HSZ.out).mono ?_
    rintro e ws ⟨rfl, hws⟩
    rw [hws]; clear hws ws
    go_wp2_with fail
    refine (copyTopic_any sd ao cap ts w1 hl HF.out (HZ.out.later dSub_ok hB1)).mono ?_
    rintro e w2 ⟨⟨to1, us, rfl, hv2, hD2⟩, hb2⟩
    rw [List.length_map] at hD2 ⊢
    have HU := hid hv2
    have hul := len_val hv2
    have HUL := hid hul
    have D2 := hid hD2
    have A2 := hid (A1.out.later hb2)
    have R2 := hid (R1.out.later hb2)
    have hB2 := hB1.trans (hb2.mono hB1.size)
    have hV2 := Nat.le_trans hV1 hb2.size
    have hs12 : w1.heap.size ≤ w2.heap.size := hb2.size
    clear A1 R1 a0 a1 r0 rf0 r1 rf1 hv2 hD2 hul hb2 hB1
    obtain ⟨w3, hw3⟩ : ∃ V, V = w2.alloc (.cells #[.int .i64 sd, .slice to1 ts.length ts.length] 29) := ⟨_, rfl⟩
    have hb3 : Below w2.heap.size w2 w3 := by rw [hw3]; exact below1 _ _
    have P3 : Hid (Bx w3 w2.heap.size [.int .i64 sd, .slice to1 ts.length ts.length]) := by rw [hw3]; exact Bx.new [.int .i64 sd, .slice to1 ts.length ts.length] _ rfl
    have A3 := hid (A2.out.later hb3)
    have R3 := hid (R2.out.later hb3)
    have D3 := hid (D2.out.later dSub_ok hb3)
    have hB3 := hB2.trans (hb3.mono hB2.size)
    have hs3 : w2.heap.size < w3.heap.size := P3.out.size
    have pa0 := A2.out.c 0 rfl
    have pa1 := A2.out.c 1 rfl
    have paz := A2.out.size
    have HW3 := hid hw3
    clear hw3 hb3 A2 R2 D2 hB2
    go_wp2_with fail
    rw [← HW3.out]
    clear pa0 pa1 paz
    refine (placeOf_is sd ao cap ts id w3 hl (HZ.out.later dSub_ok hB3).1).mono ?_
    rintro e w4 ⟨rfl, hb4⟩
    have P4 := hid (P3.out.later hb4)
    have A4 := hid (A3.out.later hb4)
    have R4 := hid (R3.out.later hb4)
    have D4 := hid (D3.out.later dSub_ok hb4)
    have hB4 := hB3.trans (hb4.mono hB3.size)
    have hs4 : w2.heap.size < w4.heap.size := P4.out.size
    clear hb4 P3 A3 R3 D3 hB3 hs3
    rw [HT.out]
    have a1 := A4.out.c 1 rfl
    have p0 := P4.out.c 0 rfl
    have p1 := P4.out.c 1 rfl
    have r0 := R4.out.c 0 rfl
    have rf0 := R4.out.f 0 rfl
    have r1 := R4.out.c 1 rfl
    have rf1 := R4.out.f 1 rfl
    have rz := R4.out.size
    go_wp2
    refine bodyPost_ret (v := .tuple #[.agg #[.int .i64 sd, .slice to1 ts.length ts.length], .int .i64 3]) (by simp [results, Try.results12, go_sem, r0, r1]) rfl ?_
    rw [HR.out]
    refine ⟨⟨to1, ts.length, us, by rw [HLM.out], HU.out, ?_⟩, (hB4.setCell (p := ⟨w.heap.size + 1, 0, none⟩) (by dsimp only; omega) _).setCell (p := ⟨w.heap.size + 1, 1, none⟩) (by dsimp only; omega) _⟩
    have hsv := HS.out
    exact DFr.wide dSub_ok (DFr.keep dSub_ok D4.out fun q h1 _ _ => by rw [Below.heap_setCell _ _ _ _ (by dsimp only; omega), Below.heap_setCell _ _ _ _ (by dsimp only; omega)]) (by omega) (by simp [World.setCell]; omega)
  · have HR : Hid (subR sd (ts.map valSub) id sz dr = (sd, (ts.map valSub).take k ++ [((id, sz, dr, 0, []) : PSub)] ++ (ts.map valSub).drop k, 0)) := by rw [Hid, subR, HG.out, HSZ.out, HTB.out, HLM.out, ← HK.out]; simp [h10]
    have h10' : ((ts.length : Int) == 10) = false := by simp; omega
    have hlt10 : ts.length ≤ 10 := by have := (topicB_good HG.out).2.1; rw [HLM.out] at this; exact this
    clear h10
    go_enter Try.func12, Try.ntmps12
    go_wp2_with fail
    rw [← HV.out]
    refine (implGood_is sd ao cap ts V true hl HF.out (HZ.out.later dSub_ok hB0) HG.out).mono ?_
    rintro e w1 ⟨rfl, hb1⟩
    have hB1 := hB0.trans (hb1.mono hB0.size)
    have hV1 := hb1.size
    have A1 := hid (A0.out.later hb1)
    have R1 := hid (R0.out.later hb1)
    have a0 := A1.out.c 0 rfl
    have a1 := A1.out.c 1 rfl
    have r0 := R1.out.c 0 rfl
    have rf0 := R1.out.f 0 rfl
    have r1 := R1.out.c 1 rfl
    have rf1 := R1.out.f 1 rfl
    clear hb1 A0 R0
    go_wp2_with fail
    refine (goodSize_is sz w1 true HSZ.out).mono ?_
    rintro e ws ⟨rfl, hws⟩
    rw [hws]; clear hws ws
    go_wp2_with fail
    refine (copyTopic_any sd ao cap ts w1 hl HF.out (HZ.out.later dSub_ok hB1)).mono ?_
    rintro e w2 ⟨⟨to1, us, rfl, hv2, hD2⟩, hb2⟩
    rw [List.length_map] at hD2 ⊢
    have HU := hid hv2
    have hul := len_val hv2
    have HUL := hid hul
    have D2 := hid hD2
    have A2 := hid (A1.out.later hb2)
    have R2 := hid (R1.out.later hb2)
    have hB2 := hB1.trans (hb2.mono hB1.size)
    have hV2 := Nat.le_trans hV1 hb2.size
    have hs12 : w1.heap.size ≤ w2.heap.size := hb2.size
    clear A1 R1 a0 a1 r0 rf0 r1 rf1 hv2 hD2 hul hb2 hB1
    obtain ⟨w3, hw3⟩ : ∃ V, V = w2.alloc (.cells #[.int .i64 sd, .slice to1 ts.length ts.length] 29) := ⟨_, rfl⟩
    have hb3 : Below w2.heap.size w2 w3 := by rw [hw3]; exact below1 _ _
    have P3 : Hid (Bx w3 w2.heap.size [.int .i64 sd, .slice to1 ts.length ts.length]) := by rw [hw3]; exact Bx.new [.int .i64 sd, .slice to1 ts.length ts.length] _ rfl
    have A3 := hid (A2.out.later hb3)
    have R3 := hid (R2.out.later hb3)
    have D3 := hid (D2.out.later dSub_ok hb3)
    have hB3 := hB2.trans (hb3.mono hB2.size)
    have hs3 : w2.heap.size < w3.heap.size := P3.out.size
    have pa0 := A2.out.c 0 rfl
    have pa1 := A2.out.c 1 rfl
    have paz := A2.out.size
    have HW3 := hid hw3
    clear hw3 hb3 A2 R2 D2 hB2
    go_wp2_with fail
    rw [← HW3.out]
    clear pa0 pa1 paz
    refine (placeOf_is sd ao cap ts id w3 hl (HZ.out.later dSub_ok hB3).1).mono ?_
    rintro e w4 ⟨rfl, hb4⟩
    have P4 := hid (P3.out.later hb4)
    have A4 := hid (A3.out.later hb4)
    have R4 := hid (R3.out.later hb4)
    have D4 := hid (D3.out.later dSub_ok hb4)
    have hB4 := hB3.trans (hb4.mono hB3.size)
    have hs4 : w2.heap.size < w4.heap.size := P4.out.size
    clear hb4 P3 A3 R3 D3 hB3 hs3
    rw [HT.out]
    rw [← HK.out]
    have a1 := A4.out.c 1 rfl
    have p0 := P4.out.c 0 rfl
    have p1 := P4.out.c 1 rfl
    obtain ⟨w5, hw5⟩ : ∃ V, V = w4.alloc (.cells #[.int .i64 id, .int .i64 sz, .bool dr, .int .i64 0, .slice none 0 0] 45) := ⟨_, rfl⟩
    have hb5 : Below w4.heap.size w4 w5 := by rw [hw5]; exact below1 _ _
    have N5 : hSub.In w5.heap.size w5 (some ⟨w4.heap.size, 0, none⟩) [((id, sz, dr, 0, (none, 0, [])) : LSub)] := by rw [hw5]; exact hSub_one (by simp) (Bx.new _ _ rfl)
    have P5 := hid (P4.out.later hb5)
    have R5 := hid (R4.out.later hb5)
    have D5 := hid (D4.out.later dSub_ok hb5)
    have hB5 := hB4.trans (hb5.mono hB4.size)
    have hs5 := hb5.size
    have HIns := hid (insert_any w1.heap.size w2.heap.size to1 us ((id, sz, dr, 0, (none, 0, [])) : LSub) k w4.heap.size w5 (by rw [HUL.out]; exact hlt10) (by rw [HUL.out]; exact HKN.out) (by have h := D5.out.1; rw [HUL.out]; exact h) N5)
    rw [HUL.out] at HIns
    have HW5 := hid hw5
    clear hw5 hb5 P4 R4 D4 hB4 A4 N5
    go_wp2_with fail
    rw [← HW5.out]
    clear a1 p0 p1
    refine HIns.out.mono ?_
    rintro e w6 ⟨⟨qc, rfl, hF6⟩, hb6⟩
    have P6 := hid (P5.out.later hb6)
    have R6 := hid (R5.out.later hb6)
    have D6 := hid (D5.out.later dSub_ok hb6)
    have hB6 := hB5.trans (hb6.mono hB5.size)
    have F6 := hid hF6
    have hs6 := hb6.size
    clear hF6 hb6 P5 R5 D5 hB5 HIns
    obtain ⟨g, hg⟩ : ∃ g, g = w5.heap.size := ⟨_, rfl⟩
    rw [← hg] at F6 ⊢
    have hgg : w2.heap.size < g := by omega
    have p0 := P6.out.c 0 rfl
    have p1 := P6.out.c 1 rfl
    have pf1 := P6.out.f 1 rfl
    obtain ⟨w7, hw7⟩ : ∃ V, V = w6.setCell ⟨w2.heap.size, 1, none⟩ (.slice (some ⟨g, 0, none⟩) (ts.length + 1) qc) := ⟨_, rfl⟩
    have P7 : Hid (Bx w7 w2.heap.size [.int .i64 sd, .slice (some ⟨g, 0, none⟩) (ts.length + 1) qc]) := by rw [Hid, hw7]; exact P6.out.set 1 _
    have R7 : Hid (Bx w7 (w.heap.size + 1) [.int .i64 0, .slice none 0 0]) := by rw [Hid, hw7]; exact R6.out.other (a := ⟨w2.heap.size, 1, none⟩) (by dsimp only; have := HS.out; omega) _
    have D7 : Hid (DFr dSub w1.heap.size w2.heap.size w7 to1 ts.length us) := by rw [Hid, hw7]; exact D6.out.keep dSub_ok fun q _ h2 _ => Below.heap_setCell _ _ _ _ (by dsimp only; omega)
    have F7 : Hid (hSub.Fresh g w6.heap.size w7 (some ⟨g, 0, none⟩) qc (us.take k ++ [((id, sz, dr, 0, (none, 0, [])) : LSub)] ++ us.drop k)) := by rw [Hid, hw7]; exact F6.out.setBelow (a := ⟨w2.heap.size, 1, none⟩) hgg _
    have hB7 : Below w.heap.size w w7 := by rw [hw7]; exact hB6.setCell (p := ⟨w2.heap.size, 1, none⟩) (by dsimp only; have := HS.out; omega) _
    have hz7 : w7.heap.size = w6.heap.size := by rw [hw7]; simp [World.setCell]
    have HZ7 := hid hz7
    have E7 := hid (ins_fr D7.out (by rw [HUL.out]; exact HKN.out) (F7.out.wide (by omega) (Nat.le_refl _)) (by omega))
    have HV7 := hid (map_ins (id := id) (sz := sz) (dr := dr) (k := k) HU.out)
    have HW7 := hid hw7
    clear hw7 hz7 P6 R6 D6 F6 D7 F7 hB6 hg
    go_upto_region 10 with fail
    rw [← HW7.out]
    clear p0 p1 pf1
    have p0 := P7.out.c 0 rfl
    have p1 := P7.out.c 1 rfl
    have r0 := R7.out.c 0 rfl
    have rf0 := R7.out.f 0 rfl
    have r1 := R7.out.c 1 rfl
    have rf1 := R7.out.f 1 rfl
    have rz := R7.out.size
    go_wp2
    refine bodyPost_ret (v := .tuple #[.agg #[.int .i64 sd, .slice (some ⟨g, 0, none⟩) (ts.length + 1) qc], .int .i64 0]) (by simp [results, Try.results12, go_sem, r0, r1]) rfl ?_
    rw [HR.out]
    refine ⟨⟨(some ⟨g, 0, none⟩), qc, us.take k ++ [((id, sz, dr, 0, (none, 0, [])) : LSub)] ++ us.drop k, ?_, HV7.out, ?_⟩, (hB7.setCell (p := ⟨w.heap.size + 1, 0, none⟩) (by dsimp only; omega) _).setCell (p := ⟨w.heap.size + 1, 1, none⟩) (by dsimp only; omega) _⟩
    · have := HKN.out
      have e : ((ts.map valSub).take k ++ [((id, sz, dr, 0, []) : PSub)] ++ (ts.map valSub).drop k).length = ts.length + 1 := by simp; omega
      rw [e]
    have hsv := HS.out
    have hzv := HZ7.out
    exact DFr.wide dSub_ok (DFr.keep dSub_ok E7.out fun q h1 _ _ => by rw [Below.heap_setCell _ _ _ _ (by dsimp only; omega), Below.heap_setCell _ _ _ _ (by dsimp only; omega)]) (by omega) (by simp [World.setCell]; omega)
end Go.Proofs.Ytjkmpgianjkohaa
