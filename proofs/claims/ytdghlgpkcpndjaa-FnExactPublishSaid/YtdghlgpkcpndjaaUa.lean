
/- Unsubscribe, the program. No conditions but those written. -/
import Derived.Test.YtdghlgpkcpndjaaTx
import Derived.Test.YtdghlgpkcpndjaaTr
import Derived.Test.YtdghlgpkcpndjaaCj
import Derived.Test.YtdghlgpkcpndjaaWs
import Derived.Test.YtdghlgpkcpndjaaTn
import Derived.Test.YtdghlgpkcpndjaaWb
import Derived.Deep.Cut
namespace Go.Proofs.Ytdghlgpkcpndjaa
open Go.RowKit

/-- What Unsubscribe answers. -/
def unsR (sd : Int) (ps : List PSub) (id : Int) : Int × List PSub × List Int × Int :=
  if topicB sd ps then
    if thB ps id then (sd, ps.take (pl ps id) ++ ps.drop (pl ps id + 1), (el ps (pl ps id)).2.2.2.2, 0)
    else (sd, ps, [], 4)
  else (0, [], [], 1)
/-- A topic and a row of ints in their own memory, apart, and a number, as an ending. -/
def AnsU (w : World) (r : Int × List PSub × List Int × Int) (e : Ending) (w' : World) : Prop := (∃ o c us go qc, e = .returned (.tuple #[.agg #[.int .i64 r.1, .slice o r.2.1.length c], .slice go r.2.2.1.length qc, .int .i64 r.2.2.2]) ∧ us.map valSub = r.2.1 ∧ DFr dSub w.heap.size w'.heap.size w' o c us ∧ kI.Fresh w.heap.size w'.heap.size w' go qc r.2.2.1 ∧ Apart us go r.2.2.1) ∧ Below w.heap.size w w'
theorem apart_nil (us : List LSub) (go : Option Addr) : Apart us go [] := fun _ hb => absurd hb.1 (by simp)
theorem el_del {us : List LSub} {k j : Nat} (hk : k < us.length) : el (us.take k ++ us.drop (k + 1)) j = if j < k then el us j else el us (j + 1) := by
  have hl : (us.take k).length = k := by simp; omega
  split
  · rename_i h
    rw [el_app_left (by rw [hl]; exact h), el_take h]
  · rename_i h
    have := el_app_right (us.take k) (us.drop (k + 1)) (j - k)
    rw [hl, show k + (j - k) = j by omega, el_drop] at this
    rw [this]
    congr 1
    omega
theorem del_fr {lo hi hi2 : Nat} {W : World} {o go : Option Addr} {c qc : Nat} {us : List LSub} {k : Nat} (h : DFr dSub lo hi W o c us) (hk : k < us.length) (hH : hSub.Fresh lo hi2 W go qc (us.take k ++ us.drop (k + 1))) (hh : hi ≤ hi2) : DFr dSub lo hi2 W go qc (us.take k ++ us.drop (k + 1)) := by
  have hll : (us.take k ++ us.drop (k + 1)).length = us.length - 1 := by simp; omega
  refine ⟨hH, fun j hj => ?_, fun i j hij hj b h1 h2 => ?_⟩
  · rw [hll] at hj
    rw [el_del hk]
    split
    · exact dSub_ok.wide (h.2.1 j (by omega)) (Nat.le_refl _) hh
    · exact dSub_ok.wide (h.2.1 (j + 1) (by omega)) (Nat.le_refl _) hh
  · rw [hll] at hj
    rw [el_del hk] at h1 h2
    split at h1
    · split at h2
      · exact h.2.2 i j hij (by omega) b h1 h2
      · exact h.2.2 i (j + 1) (by omega) (by omega) b h1 h2
    · rw [if_neg (by omega)] at h2
      exact h.2.2 (i + 1) (j + 1) (by omega) (by omega) b h1 h2
theorem apart_del {lo hi : Nat} {W : World} {o : Option Addr} {c : Nat} {us : List LSub} {k : Nat} (h : DFr dSub lo hi W o c us) (hk : k < us.length) : Apart (us.take k ++ us.drop (k + 1)) (el us k).2.2.2.2.1 (el us k).2.2.2.2.2.2 := by
  intro b hb j hj ho
  have hll : (us.take k ++ us.drop (k + 1)).length = us.length - 1 := by simp; omega
  rw [hll] at hj
  rw [el_del hk] at ho
  split at ho
  · rename_i hjk
    exact h.2.2 j k hjk hk b ho hb
  · exact h.2.2 k (j + 1) (by omega) (by omega) b hb ho
theorem apart_new {lo hi lo2 hi2 : Nat} {W W' : World} {o go : Option Addr} {c qc : Nat} {us : List LSub} {xs : List Int} (h : DFr dSub lo hi W o c us) (hI : kI.Fresh lo2 hi2 W' go qc xs) (hh : hi ≤ lo2) : Apart us go xs := by
  intro b hb j hj ho
  have h1 := (hI.lt hb).1
  have h2 := (dSub_ok.lt (h.2.1 j hj) ho).2.1
  omega
theorem map_del {us : List LSub} {ps : List PSub} {k : Nat} (h : us.map valSub = ps) : (us.take k ++ us.drop (k + 1)).map valSub = ps.take k ++ ps.drop (k + 1) := by
  rw [List.map_append, List.map_take, List.map_drop, h]
set_option maxRecDepth 10000 in
set_option maxHeartbeats 16000000 in
theorem implUnsu_any (sd : Int) (ao : Option Addr) (cap : Nat) (ts : List LSub) (id : Int) (w : World) (hl : ts.length ≤ 1048576) (hf : Fits ts) (hz : DIn dSub w.heap.size w ao ts) :
    Calls Try.prog 18 #[.agg #[.int .i64 sd, .slice ao ts.length cap], .int .i64 id] w fun e w' => AnsU w (unsR sd (ts.map valSub) id) e w' := by
  have HZ := hid hz
  have HF := hid hf
  clear hz hf
  obtain ⟨V, hV⟩ : ∃ V, V = (w.alloc (.cells #[.int .i64 sd, .slice ao ts.length cap] 25)).alloc (.cells #[.int .i64 0, .slice none 0 0] 25) := ⟨_, rfl⟩
  have hB0 : Below w.heap.size w V := by rw [hV]; exact below2 _ _ _
  have A0 : Hid (Bx V w.heap.size [.int .i64 sd, .slice ao ts.length cap]) := by rw [hV]; exact (Bx.new [.int .i64 sd, .slice ao ts.length cap] _ rfl).alloc _
  have R0 : Hid (Bx V (w.heap.size + 1) [.int .i64 0, .slice none 0 0]) := by rw [hV]; exact Bx.new [.int .i64 0, .slice none 0 0] _ (by simp)
  have HS : Hid (V.heap.size = w.heap.size + 1 + 1) := by rw [hV]; simp [Hid]
  have HV := hid hV
  have hlm : (ts.map valSub).length = ts.length := by simp
  have HLM := hid hlm
  clear hV hlm
  cases hg : topicB sd (ts.map valSub)
  · have HG := hid hg
    have HR : Hid (unsR sd (ts.map valSub) id = (0, [], [], 1)) := by rw [Hid, unsR, hg]; rfl
    clear hg
    go_enter Try.func18, Try.ntmps18
    go_wp2_with fail
    rw [← HV.out]
    refine (implGood_is sd ao cap ts V false hl HF.out (HZ.out.later dSub_ok hB0) HG.out).mono ?_
    rintro e w1 ⟨rfl, hb1⟩
    have hB1 := hB0.trans (hb1.mono hB0.size)
    have hV1 := hb1.size
    have A1 := hid (A0.out.later hb1)
    have R1 := hid (R0.out.later hb1)
    have a0 := A1.out.c 0 rfl
    have a1 := A1.out.c 1 rfl
    have r0 := R1.out.c 0 rfl
    have rf0 := R1.out.f 0 rfl
    have r1 := R1.out.c 1 rfl
    have rf1 := R1.out.f 1 rfl
    clear hb1 A0 R0
    have rz := R1.out.size
    go_wp2
    refine bodyPost_ret (v := .tuple #[.agg #[.int .i64 0, .slice none 0 0], .slice none 0 0, .int .i64 1]) (by simp [results, Try.results18, go_sem, r0, r1]) rfl ?_
    rw [HR.out]
    exact ⟨⟨none, 0, [], none, 0, rfl, rfl, DFr.nil _ _ _ _ _, .inl rfl, apart_nil _ _⟩, (hB1.setCell (p := ⟨w.heap.size + 1, 0, none⟩) (by dsimp only; omega) _).setCell (p := ⟨w.heap.size + 1, 1, none⟩) (by dsimp only; omega) _⟩
  have HG := hid hg
  clear hg
  cases ht : thB (ts.map valSub) id
  · have HT := hid ht
    have HR : Hid (unsR sd (ts.map valSub) id = (sd, ts.map valSub, [], 4)) := by rw [Hid, unsR, HG.out, ht]; rfl
    clear ht
    go_enter Try.func18, Try.ntmps18
    go_wp2_with fail
    rw [← HV.out]
    refine (implGood_is sd ao cap ts V true hl HF.out (HZ.out.later dSub_ok hB0) HG.out).mono ?_
    rintro e w1 ⟨rfl, hb1⟩
    have hB1 := hB0.trans (hb1.mono hB0.size)
    have hV1 := hb1.size
    have A1 := hid (A0.out.later hb1)
    have R1 := hid (R0.out.later hb1)
    have a0 := A1.out.c 0 rfl
    have a1 := A1.out.c 1 rfl
    have r0 := R1.out.c 0 rfl
    have rf0 := R1.out.f 0 rfl
    have r1 := R1.out.c 1 rfl
    have rf1 := R1.out.f 1 rfl
    clear hb1 A0 R0
    go_wp2_with fail
    refine (copyTopic_any sd ao cap ts w1 hl HF.out (HZ.out.later dSub_ok hB1)).mono ?_
    rintro e w2 ⟨⟨to1, us, rfl, hv2, hD2⟩, hb2⟩
    rw [List.length_map] at hD2 ⊢
    have HU := hid hv2
    have hul := len_val hv2
    have HUL := hid hul
    have D2 := hid hD2
    have A2 := hid (A1.out.later hb2)
    have R2 := hid (R1.out.later hb2)
    have hB2 := hB1.trans (hb2.mono hB1.size)
    have hV2 := Nat.le_trans hV1 hb2.size
    have hs12 : w1.heap.size ≤ w2.heap.size := hb2.size
    clear A1 R1 a0 a1 r0 rf0 r1 rf1 hv2 hD2 hul hb2 hB1
    obtain ⟨w3, hw3⟩ : ∃ V, V = w2.alloc (.cells #[.int .i64 sd, .slice to1 ts.length ts.length] 25) := ⟨_, rfl⟩
    have hb3 : Below w2.heap.size w2 w3 := by rw [hw3]; exact below1 _ _
    have P3 : Hid (Bx w3 w2.heap.size [.int .i64 sd, .slice to1 ts.length ts.length]) := by rw [hw3]; exact Bx.new [.int .i64 sd, .slice to1 ts.length ts.length] _ rfl
    have A3 := hid (A2.out.later hb3)
    have R3 := hid (R2.out.later hb3)
    have D3 := hid (D2.out.later dSub_ok hb3)
    have hB3 := hB2.trans (hb3.mono hB2.size)
    have hs3 : w2.heap.size < w3.heap.size := P3.out.size
    have pa0 := A2.out.c 0 rfl
    have pa1 := A2.out.c 1 rfl
    have paz := A2.out.size
    have HW3 := hid hw3
    clear hw3 hb3 A2 R2 D2 hB2
    go_wp2_with fail
    rw [← HW3.out]
    clear pa0 pa1 paz
    refine (placeOf_is sd ao cap ts id w3 hl (HZ.out.later dSub_ok hB3).1).mono ?_
    rintro e w4 ⟨rfl, hb4⟩
    have P4 := hid (P3.out.later hb4)
    have A4 := hid (A3.out.later hb4)
    have R4 := hid (R3.out.later hb4)
    have D4 := hid (D3.out.later dSub_ok hb4)
    have hB4 := hB3.trans (hb4.mono hB3.size)
    have hs4 : w2.heap.size < w4.heap.size := P4.out.size
    clear hb4 P3 A3 R3 D3 hB3 hs3
    rw [HT.out]
    have p0 := P4.out.c 0 rfl
    have p1 := P4.out.c 1 rfl
    have r0 := R4.out.c 0 rfl
    have rf0 := R4.out.f 0 rfl
    have r1 := R4.out.c 1 rfl
    have rf1 := R4.out.f 1 rfl
    have rz := R4.out.size
    go_wp2
    refine bodyPost_ret (v := .tuple #[.agg #[.int .i64 sd, .slice to1 ts.length ts.length], .slice none 0 0, .int .i64 4]) (by simp [results, Try.results18, go_sem, r0, r1]) rfl ?_
    rw [HR.out]
    refine ⟨⟨to1, ts.length, us, none, 0, by rw [HLM.out]; rfl, HU.out, ?_, .inl rfl, apart_nil _ _⟩, (hB4.setCell (p := ⟨w.heap.size + 1, 0, none⟩) (by dsimp only; omega) _).setCell (p := ⟨w.heap.size + 1, 1, none⟩) (by dsimp only; omega) _⟩
    have hsv := HS.out
    exact DFr.wide dSub_ok (DFr.keep dSub_ok D4.out fun q h1 _ _ => by rw [Below.heap_setCell _ _ _ _ (by dsimp only; omega), Below.heap_setCell _ _ _ _ (by dsimp only; omega)]) (by omega) (by simp [World.setCell]; omega)
  have HT := hid ht
  have hkl := thB_lt ht
  rw [HLM.out] at hkl
  have hgd := sub_el HG.out (k := pl (ts.map valSub) id) (by rw [HLM.out]; exact hkl)
  have hev := el_val hkl
  obtain ⟨k, hk⟩ : ∃ k, k = pl (ts.map valSub) id := ⟨_, rfl⟩
  have HK := hid hk
  rw [← hk] at hkl hgd hev
  clear ht hk
  obtain ⟨b0, off, hao, hb, hc⟩ := hSub_at HZ.out.1 hkl
  have HAO := hid hao
  have hck := hc k hkl
  have hI := HZ.out.2 k hkl
  obtain ⟨⟨nd, kap, dr, dp, ⟨qo, qc, q⟩⟩, ey⟩ : ∃ v, v = el ts k := ⟨_, rfl⟩
  rw [← ey] at hck hI hev
  rw [hev] at hgd
  have HE : Hid (el (ts.map valSub) k = (nd, kap, dr, dp, q)) := hev
  have HI : Hid (kI.In w.heap.size w qo q) := hI
  dsimp only [valSub] at hck hgd
  have HD := hid hck
  have HGD := hid hgd
  have HKL := hid hkl
  have HB := hid hb
  have HR : Hid (unsR sd (ts.map valSub) id = (sd, ((ts.map valSub).take k ++ (ts.map valSub).drop (k + 1)), q, 0)) := by rw [Hid, unsR, HG.out, HT.out, ← HK.out, HE.out]; rfl
  have hfl : ∀ (a : Option Addr) (n c : Nat) (W : World), (Instr.field 72 (.agg #[.slice a n c]) 0).run Try.prog W = .ok (.slice a n c) W := run_fieldS
  clear ey hc hI hev hck hgd hkl hb hao
  go_enter Try.func18, Try.ntmps18
  go_wp2_with fail
  rw [← HV.out]
  refine (implGood_is sd ao cap ts V true hl HF.out (HZ.out.later dSub_ok hB0) HG.out).mono ?_
  rintro e w1 ⟨rfl, hb1⟩
  have hB1 := hB0.trans (hb1.mono hB0.size)
  have hV1 := hb1.size
  have A1 := hid (A0.out.later hb1)
  have R1 := hid (R0.out.later hb1)
  have a0 := A1.out.c 0 rfl
  have a1 := A1.out.c 1 rfl
  have r0 := R1.out.c 0 rfl
  have rf0 := R1.out.f 0 rfl
  have r1 := R1.out.c 1 rfl
  have rf1 := R1.out.f 1 rfl
  clear hb1 A0 R0
  go_wp2_with fail
  refine (copyTopic_any sd ao cap ts w1 hl HF.out (HZ.out.later dSub_ok hB1)).mono ?_
  rintro e w2 ⟨⟨to1, us, rfl, hv2, hD2⟩, hb2⟩
  rw [List.length_map] at hD2 ⊢
  have HU := hid hv2
  have hul := len_val hv2
  have HUL := hid hul
  have D2 := hid hD2
  have A2 := hid (A1.out.later hb2)
  have R2 := hid (R1.out.later hb2)
  have hB2 := hB1.trans (hb2.mono hB1.size)
  have hV2 := Nat.le_trans hV1 hb2.size
  have hs12 : w1.heap.size ≤ w2.heap.size := hb2.size
  clear A1 R1 a0 a1 r0 rf0 r1 rf1 hv2 hD2 hul hb2 hB1
  obtain ⟨w3, hw3⟩ : ∃ V, V = w2.alloc (.cells #[.int .i64 sd, .slice to1 ts.length ts.length] 25) := ⟨_, rfl⟩
  have hb3 : Below w2.heap.size w2 w3 := by rw [hw3]; exact below1 _ _
  have P3 : Hid (Bx w3 w2.heap.size [.int .i64 sd, .slice to1 ts.length ts.length]) := by rw [hw3]; exact Bx.new [.int .i64 sd, .slice to1 ts.length ts.length] _ rfl
  have A3 := hid (A2.out.later hb3)
  have R3 := hid (R2.out.later hb3)
  have D3 := hid (D2.out.later dSub_ok hb3)
  have hB3 := hB2.trans (hb3.mono hB2.size)
  have hs3 : w2.heap.size < w3.heap.size := P3.out.size
  have pa0 := A2.out.c 0 rfl
  have pa1 := A2.out.c 1 rfl
  have paz := A2.out.size
  have HW3 := hid hw3
  clear hw3 hb3 A2 R2 D2 hB2
  go_wp2_with fail
  rw [← HW3.out]
  clear pa0 pa1 paz
  refine (placeOf_is sd ao cap ts id w3 hl (HZ.out.later dSub_ok hB3).1).mono ?_
  rintro e w4 ⟨rfl, hb4⟩
  have P4 := hid (P3.out.later hb4)
  have A4 := hid (A3.out.later hb4)
  have R4 := hid (R3.out.later hb4)
  have D4 := hid (D3.out.later dSub_ok hb4)
  have hB4 := hB3.trans (hb4.mono hB3.size)
  have hs4 : w2.heap.size < w4.heap.size := P4.out.size
  clear hb4 P3 A3 R3 D3 hB3 hs3
  rw [HT.out]
  rw [← HK.out]
  have hku : k < us.length := by rw [HUL.out]; exact HKL.out
  have p0 := P4.out.c 0 rfl
  have p1 := P4.out.c 1 rfl
  have hq4 : Hid (hSub.In w4.heap.size w4 to1 us) := (D4.out.in dSub_ok).1
  have HQO := hid (queueOfS_any to1 ts.length us w4 (by rw [HUL.out]; exact hl) hq4.out)
  rw [HUL.out] at HQO
  go_wp2_with fail
  refine HQO.out.mono ?_
  rintro e w5 ⟨⟨to2, rfl, hF5⟩, hb5⟩
  have P5 := hid (P4.out.later hb5)
  have A5 := hid (A4.out.later hb5)
  have R5 := hid (R4.out.later hb5)
  have D5 := hid (D4.out.later dSub_ok hb5)
  have hB5 := hB4.trans (hb5.mono hB4.size)
  have hs5 := hb5.size
  have HWO := hid (withoutS_any to2 ts.length us (k : Int) w5 (by rw [HUL.out]; exact hl) hF5.in (us.take k ++ us.drop (k + 1)) (keepE_range us k hku).symm)
  rw [HUL.out] at HWO
  clear hF5 hb5 P4 A4 R4 D4 hB4 p0 p1 HQO hq4
  go_wp2_with fail
  refine HWO.out.mono ?_
  rintro e w6 ⟨⟨go2, qc2, rfl, hF6⟩, hb6⟩
  have hlk : (us.take k ++ us.drop (k + 1)).length = ts.length - 1 := by simp [HUL.out]; have := HKL.out; omega
  rw [hlk]
  have P6 := hid (P5.out.later hb6)
  have A6 := hid (A5.out.later hb6)
  have R6 := hid (R5.out.later hb6)
  have D6 := hid (D5.out.later dSub_ok hb6)
  have hB6 := hB5.trans (hb6.mono hB5.size)
  have F6 := hid hF6
  have hs6 := hb6.size
  have p0 := P6.out.c 0 rfl
  have p1 := P6.out.c 1 rfl
  have pf1 := P6.out.f 1 rfl
  clear hF6 hb6 P5 A5 R5 D5 hB5 HWO hlk
  obtain ⟨w7, hw7⟩ : ∃ V, V = w6.setCell ⟨w2.heap.size, 1, none⟩ (.slice go2 (ts.length - 1) qc2) := ⟨_, rfl⟩
  have hsv := HS.out
  have P7 : Bx w7 w2.heap.size [.int .i64 sd, .slice go2 (ts.length - 1) qc2] := by rw [hw7]; exact P6.out.set 1 _
  have A7 : Bx w7 w.heap.size [.int .i64 sd, .slice ao ts.length cap] := by rw [hw7]; exact A6.out.other (a := ⟨w2.heap.size, 1, none⟩) (by dsimp only; omega) _
  have R7 : Bx w7 (w.heap.size + 1) [.int .i64 0, .slice none 0 0] := by rw [hw7]; exact R6.out.other (a := ⟨w2.heap.size, 1, none⟩) (by dsimp only; omega) _
  have D7 : DFr dSub w1.heap.size w2.heap.size w7 to1 ts.length us := by rw [hw7]; exact D6.out.keep dSub_ok fun q _ h2 _ => Below.heap_setCell _ _ _ _ (by dsimp only; omega)
  have F7 : hSub.Fresh w5.heap.size w6.heap.size w7 go2 qc2 (us.take k ++ us.drop (k + 1)) := by rw [hw7]; exact F6.out.setBelow (a := ⟨w2.heap.size, 1, none⟩) (by dsimp only; omega) _
  have hB7 : Below w.heap.size w w7 := by rw [hw7]; exact hB6.setCell (p := ⟨w2.heap.size, 1, none⟩) (by dsimp only; omega) _
  have hz7 : w7.heap.size = w6.heap.size := by rw [hw7]; simp [World.setCell]
  have E7 : Hid (DFr dSub w1.heap.size w7.heap.size w7 go2 qc2 (us.take k ++ us.drop (k + 1))) := del_fr D7 hku (F7.wide (by omega) (by omega)) (by omega)
  have HV7 := hid (map_del (k := k) HU.out)
  have HW7 := hid hw7
  have HZ7 := hid hz7
  have h27 : w2.heap.size < w7.heap.size := P7.size
  clear hw7 P6 A6 R6 D6 F6 D7 F7 hB6 hku hz7
  rw [HAO.out] at A7
  go_upto_region 8 with fail
  rw [← HW7.out]
  clear p0 p1 pf1
  have mkS : ∀ Y : World, Bx Y w.heap.size [.int .i64 sd, .slice (some ⟨b0, off, none⟩) ts.length cap] → Bx Y w2.heap.size [.int .i64 sd, .slice go2 (ts.length - 1) qc2] → Below w.heap.size w Y → Y.cell? ⟨w2.heap.size, 0, none⟩ = some (.int .i64 sd) ∧ Y.cell? ⟨w2.heap.size, 1, none⟩ = some (.slice go2 (ts.length - 1) qc2) ∧ Y.cell? ⟨w.heap.size, 1, none⟩ = some (.slice (some ⟨b0, off, none⟩) ts.length cap) ∧ Y.cell? ⟨b0, off + k * 5, none⟩ = some (.int .i64 nd) ∧ Y.cell? ⟨b0, off + k * 5 + 1, none⟩ = some (.int .i64 kap) ∧ Y.cell? ⟨b0, off + k * 5 + 2, none⟩ = some (.bool dr) ∧ Y.cell? ⟨b0, off + k * 5 + 3, none⟩ = some (.int .i64 dp) ∧ Y.cell? ⟨b0, off + k * 5 + 4, none⟩ = some (.slice qo q.length qc) := fun Y hA hP hBY => ⟨hP.c 0 rfl, hP.c 1 rfl, hA.c 1 rfl, (hBY.cell (p := ⟨b0, off + k * 5, none⟩) HB.out).trans HD.out.1, (hBY.cell (p := ⟨b0, off + k * 5 + 1, none⟩) HB.out).trans HD.out.2.1, (hBY.cell (p := ⟨b0, off + k * 5 + 2, none⟩) HB.out).trans HD.out.2.2.1, (hBY.cell (p := ⟨b0, off + k * 5 + 3, none⟩) HB.out).trans HD.out.2.2.2.1, (hBY.cell (p := ⟨b0, off + k * 5 + 4, none⟩) HB.out).trans HD.out.2.2.2.2⟩
  have setA : ∀ (Y : World) {us : List Value}, Bx Y w.heap.size us → Bx ((Y.setCell ⟨w.heap.size + 1, 0, none⟩ (.int .i64 sd)).setCell ⟨w.heap.size + 1, 1, none⟩ (.slice go2 (ts.length - 1) qc2)) w.heap.size us := fun Y _ h => (h.other (a := ⟨w.heap.size + 1, 0, none⟩) (by dsimp only; omega) _).other (a := ⟨w.heap.size + 1, 1, none⟩) (by dsimp only; omega) _
  have setP : ∀ (Y : World) {us : List Value}, Bx Y w2.heap.size us → Bx ((Y.setCell ⟨w.heap.size + 1, 0, none⟩ (.int .i64 sd)).setCell ⟨w.heap.size + 1, 1, none⟩ (.slice go2 (ts.length - 1) qc2)) w2.heap.size us := fun Y _ h => (h.other (a := ⟨w.heap.size + 1, 0, none⟩) (by dsimp only; omega) _).other (a := ⟨w.heap.size + 1, 1, none⟩) (by dsimp only; omega) _
  have setB : ∀ Y : World, Below w.heap.size w Y → Below w.heap.size w ((Y.setCell ⟨w.heap.size + 1, 0, none⟩ (.int .i64 sd)).setCell ⟨w.heap.size + 1, 1, none⟩ (.slice go2 (ts.length - 1) qc2)) := fun Y h => (h.setCell (p := ⟨w.heap.size + 1, 0, none⟩) (by dsimp only; omega) _).setCell (p := ⟨w.heap.size + 1, 1, none⟩) (by dsimp only; omega) _
  have setK : ∀ (Y : World) (i : Nat), w.heap.size + 1 < i → ((Y.setCell ⟨w.heap.size + 1, 0, none⟩ (.int .i64 sd)).setCell ⟨w.heap.size + 1, 1, none⟩ (.slice go2 (ts.length - 1) qc2)).heap[i]? = Y.heap[i]? := fun Y i h => by rw [Below.heap_setCell _ _ _ _ (by dsimp only; omega), Below.heap_setCell _ _ _ _ (by dsimp only; omega)]
  have setE : ∀ Y : World, DFr dSub w1.heap.size w7.heap.size Y go2 qc2 (us.take k ++ us.drop (k + 1)) → DFr dSub w1.heap.size w7.heap.size ((Y.setCell ⟨w.heap.size + 1, 0, none⟩ (.int .i64 sd)).setCell ⟨w.heap.size + 1, 1, none⟩ (.slice go2 (ts.length - 1) qc2)) go2 qc2 (us.take k ++ us.drop (k + 1)) := fun Y h => DFr.keep dSub_ok h fun i h1 _ _ => setK Y i (by omega)
  have setZ : ∀ Y : World, ((Y.setCell ⟨w.heap.size + 1, 0, none⟩ (.int .i64 sd)).setCell ⟨w.heap.size + 1, 1, none⟩ (.slice go2 (ts.length - 1) qc2)).heap.size = Y.heap.size := fun Y => by simp [World.setCell]
  have HSZ := hid setZ
  clear setZ
  have C7 := mkS w7 A7 P7 hB7
  have A7s := setA w7 A7
  have P7s := setP w7 P7
  have R7s := (R7.set 0 (.int .i64 sd)).set 1 (.slice go2 (ts.length - 1) qc2)
  have hB7s := setB w7 hB7
  have E7s := hid (setE w7 E7.out)
  have C7s := mkS _ A7s P7s hB7s
  have C7d : (((w7.setCell ⟨w.heap.size + 1, 0, none⟩ (.int .i64 sd)).setCell ⟨w.heap.size + 1, 1, none⟩ (.slice go2 (ts.length - 1) qc2))).drew.cell? ⟨w2.heap.size, 0, none⟩ = some (.int .i64 sd) ∧ (((w7.setCell ⟨w.heap.size + 1, 0, none⟩ (.int .i64 sd)).setCell ⟨w.heap.size + 1, 1, none⟩ (.slice go2 (ts.length - 1) qc2))).drew.cell? ⟨w2.heap.size, 1, none⟩ = some (.slice go2 (ts.length - 1) qc2) ∧ (((w7.setCell ⟨w.heap.size + 1, 0, none⟩ (.int .i64 sd)).setCell ⟨w.heap.size + 1, 1, none⟩ (.slice go2 (ts.length - 1) qc2))).drew.cell? ⟨w.heap.size, 1, none⟩ = some (.slice (some ⟨b0, off, none⟩) ts.length cap) ∧ (((w7.setCell ⟨w.heap.size + 1, 0, none⟩ (.int .i64 sd)).setCell ⟨w.heap.size + 1, 1, none⟩ (.slice go2 (ts.length - 1) qc2))).drew.cell? ⟨b0, off + k * 5, none⟩ = some (.int .i64 nd) ∧ (((w7.setCell ⟨w.heap.size + 1, 0, none⟩ (.int .i64 sd)).setCell ⟨w.heap.size + 1, 1, none⟩ (.slice go2 (ts.length - 1) qc2))).drew.cell? ⟨b0, off + k * 5 + 1, none⟩ = some (.int .i64 kap) ∧ (((w7.setCell ⟨w.heap.size + 1, 0, none⟩ (.int .i64 sd)).setCell ⟨w.heap.size + 1, 1, none⟩ (.slice go2 (ts.length - 1) qc2))).drew.cell? ⟨b0, off + k * 5 + 2, none⟩ = some (.bool dr) ∧ (((w7.setCell ⟨w.heap.size + 1, 0, none⟩ (.int .i64 sd)).setCell ⟨w.heap.size + 1, 1, none⟩ (.slice go2 (ts.length - 1) qc2))).drew.cell? ⟨b0, off + k * 5 + 3, none⟩ = some (.int .i64 dp) ∧ (((w7.setCell ⟨w.heap.size + 1, 0, none⟩ (.int .i64 sd)).setCell ⟨w.heap.size + 1, 1, none⟩ (.slice go2 (ts.length - 1) qc2))).drew.cell? ⟨b0, off + k * 5 + 4, none⟩ = some (.slice qo q.length qc) := C7s
  have r0 := R7.c 0 rfl
  have rf0 := R7.f 0 rfl
  have r1 := R7.c 1 rfl
  have rf1 := R7.f 1 rfl
  have hkl := HKL.out
  have hk0 : (0 : Int) ≤ (k : Int) := by omega
  have hk1 : (k : Int) < (ts.length : Int) := by omega
  go_region_held3 (fun Y => Y.cell? ⟨w2.heap.size, 0, none⟩ = some (.int .i64 sd) ∧ Y.cell? ⟨w2.heap.size, 1, none⟩ = some (.slice go2 (ts.length - 1) qc2) ∧ Y.cell? ⟨w.heap.size, 1, none⟩ = some (.slice (some ⟨b0, off, none⟩) ts.length cap) ∧ Y.cell? ⟨b0, off + k * 5, none⟩ = some (.int .i64 nd) ∧ Y.cell? ⟨b0, off + k * 5 + 1, none⟩ = some (.int .i64 kap) ∧ Y.cell? ⟨b0, off + k * 5 + 2, none⟩ = some (.bool dr) ∧ Y.cell? ⟨b0, off + k * 5 + 3, none⟩ = some (.int .i64 dp) ∧ Y.cell? ⟨b0, off + k * 5 + 4, none⟩ = some (.slice qo q.length qc))
    (first | (with_reducible exact C7) | (with_reducible exact C7s) | (with_reducible exact C7d) | (with_reducible exact S8) | (with_reducible exact S8s) | (with_reducible exact S9) | (with_reducible exact S9s) | exact C7)
    (first
      | (go_at_call 38; refine (hearAll_any (w7.heap.size + 1) _ q w8 (by have h1 := HGD.out.2.1; have h2 := HGD.out.2.2.1; omega) C8.out).mono ?_; rintro e w9 ⟨⟨go, qc3, rfl, hF9⟩, hbt⟩; have A9 := A8.between hbt (by omega); have PB9 := PB8.between hbt (by omega); have RB9 := RB8.between hbt (by omega); have E9 := hid (DFr.between' dSub_ok E8.out hbt (by omega)); have hB9 : Below w.heap.size w w9 := hB8.trans ((hbt.below (by have := C8.out.lt; omega)).mono (by omega)); have F9 := hid hF9; have S9 := mkS w9 A9 PB9 hB9; have hz9 := hbt.size; have sz9 : w8.heap.size ≤ w8.heap.size := (by exact Nat.le_refl _); clear r0 rf0 r1 rf1; have r0 := RB9.c 0 rfl; have rf0 := RB9.f 0 rfl; have r1 := RB9.c 1 rfl; have rf1 := RB9.f 1 rfl; have A9s := setA w9 A9; have PB9s := setP w9 PB9; have hB9s := setB w9 hB9; have S9s := mkS _ A9s PB9s hB9s; clear hF9 hbt)
      | (go_at_call 38; refine (hearAll_any (w7.heap.size + 1) _ q ((w8.setCell ⟨w.heap.size + 1, 0, none⟩ (.int .i64 sd)).setCell ⟨w.heap.size + 1, 1, none⟩ (.slice go2 (ts.length - 1) qc2)) (by have h1 := HGD.out.2.1; have h2 := HGD.out.2.2.1; omega) C8s.out).mono ?_; rintro e w9 ⟨⟨go, qc3, rfl, hF9⟩, hbt⟩; have A9 := A8s.between hbt (by omega); have PB9 := PB8s.between hbt (by omega); have RB9 := RB8s.between hbt (by omega); have E9 := hid (DFr.between' dSub_ok E8s.out hbt (by omega)); have hB9 : Below w.heap.size w w9 := hB8s.trans ((hbt.below (by have := C8s.out.lt; omega)).mono (by omega)); have F9 := hid hF9; have S9 := mkS w9 A9 PB9 hB9; have hz9 := hbt.size; have sz9 : w8.heap.size ≤ ((w8.setCell ⟨w.heap.size + 1, 0, none⟩ (.int .i64 sd)).setCell ⟨w.heap.size + 1, 1, none⟩ (.slice go2 (ts.length - 1) qc2)).heap.size := (by rw [HSZ.out]; exact Nat.le_refl _); clear r0 rf0 r1 rf1; have r0 := RB9.c 0 rfl; have rf0 := RB9.f 0 rfl; have r1 := RB9.c 1 rfl; have rf1 := RB9.f 1 rfl; have A9s := setA w9 A9; have PB9s := setP w9 PB9; have hB9s := setB w9 hB9; have S9s := mkS _ A9s PB9s hB9s; clear hF9 hbt)
      | (go_at_call 36; refine (wireOf_any nd kap dr dp qo qc q w7.drew (by have := HGD.out.1; omega) (by have := HGD.out.2.1; omega) HGD.out.2.2.1 (by exact HI.out.later hB7.drew)).mono ?_; rintro e w8 ⟨rfl, hC8, hb8⟩; have hbv : Below w7.heap.size w7 w8 := (Below.refl w7.heap.size w7).drew.trans hb8; have A8 := A7.later hbv; have PB8 := P7.later hbv; have RB8 := R7.later hbv; have E8 := hid (DFr.later dSub_ok E7.out hbv); have hB8 := hB7.trans (hbv.mono hB7.size); have C8 : Hid (ChB w8 (w7.heap.size + 1) kap.toNat q) := (by exact hC8); have S8 := mkS w8 A8 PB8 hB8; have r0 := RB8.c 0 rfl; have rf0 := RB8.f 0 rfl; have r1 := RB8.c 1 rfl; have rf1 := RB8.f 1 rfl; have A8s := setA w8 A8; have PB8s := setP w8 PB8; have RB8s := (RB8.set 0 (.int .i64 sd)).set 1 (.slice go2 (ts.length - 1) qc2); have hB8s := setB w8 hB8; have E8s := hid (setE w8 E8.out); have C8s : Hid (ChB ((w8.setCell ⟨w.heap.size + 1, 0, none⟩ (.int .i64 sd)).setCell ⟨w.heap.size + 1, 1, none⟩ (.slice go2 (ts.length - 1) qc2)) (w7.heap.size + 1) kap.toNat q) := (C8.out.keep (setK w8 (w7.heap.size + 1) (by omega))); have S8s := mkS _ A8s PB8s hB8s; have hz8 : w7.heap.size ≤ w8.heap.size := (by have := hbv.size; skip; omega); clear hb8 hbv hC8)
      | (go_at_call 36; refine (wireOf_any nd kap dr dp qo qc q ((w7.setCell ⟨w.heap.size + 1, 0, none⟩ (.int .i64 sd)).setCell ⟨w.heap.size + 1, 1, none⟩ (.slice go2 (ts.length - 1) qc2)).drew (by have := HGD.out.1; omega) (by have := HGD.out.2.1; omega) HGD.out.2.2.1 (by exact HI.out.later hB7s.drew)).mono ?_; rintro e w8 ⟨rfl, hC8, hb8⟩; have hbv : Below ((w7.setCell ⟨w.heap.size + 1, 0, none⟩ (.int .i64 sd)).setCell ⟨w.heap.size + 1, 1, none⟩ (.slice go2 (ts.length - 1) qc2)).heap.size ((w7.setCell ⟨w.heap.size + 1, 0, none⟩ (.int .i64 sd)).setCell ⟨w.heap.size + 1, 1, none⟩ (.slice go2 (ts.length - 1) qc2)) w8 := (Below.refl ((w7.setCell ⟨w.heap.size + 1, 0, none⟩ (.int .i64 sd)).setCell ⟨w.heap.size + 1, 1, none⟩ (.slice go2 (ts.length - 1) qc2)).heap.size ((w7.setCell ⟨w.heap.size + 1, 0, none⟩ (.int .i64 sd)).setCell ⟨w.heap.size + 1, 1, none⟩ (.slice go2 (ts.length - 1) qc2))).drew.trans hb8; have A8 := A7s.later hbv; have PB8 := P7s.later hbv; have RB8 := R7s.later hbv; have E8 := hid (DFr.later dSub_ok E7s.out hbv); have hB8 := hB7s.trans (hbv.mono hB7s.size); have C8 : Hid (ChB w8 (w7.heap.size + 1) kap.toNat q) := (by have h := hC8; rw [show ((w7.setCell ⟨w.heap.size + 1, 0, none⟩ (.int .i64 sd)).setCell ⟨w.heap.size + 1, 1, none⟩ (.slice go2 (ts.length - 1) qc2)).drew.heap.size = w7.heap.size from HSZ.out w7] at h; exact h); have S8 := mkS w8 A8 PB8 hB8; have r0 := RB8.c 0 rfl; have rf0 := RB8.f 0 rfl; have r1 := RB8.c 1 rfl; have rf1 := RB8.f 1 rfl; have A8s := setA w8 A8; have PB8s := setP w8 PB8; have RB8s := (RB8.set 0 (.int .i64 sd)).set 1 (.slice go2 (ts.length - 1) qc2); have hB8s := setB w8 hB8; have E8s := hid (setE w8 E8.out); have C8s : Hid (ChB ((w8.setCell ⟨w.heap.size + 1, 0, none⟩ (.int .i64 sd)).setCell ⟨w.heap.size + 1, 1, none⟩ (.slice go2 (ts.length - 1) qc2)) (w7.heap.size + 1) kap.toNat q) := (C8.out.keep (setK w8 (w7.heap.size + 1) (by omega))); have S8s := mkS _ A8s PB8s hB8s; have hz8 : w7.heap.size ≤ w8.heap.size := (by have := hbv.size; have := HSZ.out w7; omega); clear hb8 hbv hC8))
  all_goals
    have AP := apart_new E9.out F9.out (by omega)
    have hrz := RB9.size
    have hs12' := hs12
    have E9s := hid (setE w9 E9.out)
    have F9s : Hid (kI.Fresh w7.heap.size w9.heap.size ((w9.setCell ⟨w.heap.size + 1, 0, none⟩ (.int .i64 sd)).setCell ⟨w.heap.size + 1, 1, none⟩ (.slice go2 (ts.length - 1) qc2)) go qc3 q) := (Kind.Fresh.keep (F9.out.wide (lo' := w7.heap.size) (by omega) (Nat.le_refl _)) fun i h1 _ _ => setK w9 i (by omega))
    have F9p : Hid (kI.Fresh w7.heap.size w9.heap.size w9 go qc3 q) := F9.out.wide (by omega) (Nat.le_refl _)
    have hl9 : ((ts.map valSub).take k ++ (ts.map valSub).drop (k + 1)).length = ts.length - 1 := by simp; omega
    have hzs := HSZ.out w9
    go_wp2
    refine bodyPost_ret (v := .tuple #[.agg #[.int .i64 sd, .slice go2 (ts.length - 1) qc2], .slice go q.length qc3, .int .i64 0]) (by simp [results, Try.results18, go_sem, r0, r1]) rfl ?_
    rw [HR.out]
    first
    | exact ⟨⟨go2, qc2, (us.take k ++ us.drop (k + 1)), go, qc3, by rw [hl9], HV7.out, DFr.wide dSub_ok E9.out (by omega) (by omega), F9p.out.wide (by omega) (Nat.le_refl _), AP⟩, hB9⟩
    | exact ⟨⟨go2, qc2, (us.take k ++ us.drop (k + 1)), go, qc3, by rw [hl9], HV7.out, DFr.wide dSub_ok E9s.out (by omega) (by omega), F9s.out.wide (by omega) (by omega), AP⟩, hB9s⟩
end Go.Proofs.Ytdghlgpkcpndjaa
