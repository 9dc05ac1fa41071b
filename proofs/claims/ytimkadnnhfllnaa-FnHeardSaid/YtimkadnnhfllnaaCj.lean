
/- All that a channel holds, heard. No conditions but those written. -/
import Derived.Test.YtimkadnnhfllnaaCi
namespace Go.Proofs.Ytimkadnnhfllnaa
open Go.RowKit

/-- How long a row is. -/
def rowLen : Value → Nat
  | .slice _ n _ => n
  | _ => 0
theorem OnlyAt.between {c : Nat} {W W' : World} (h : OnlyAt (some ⟨c, 0, none⟩) W W') : Between c (c + 1) W W' :=
  ⟨h.os, h.tape, h.output, by rw [h.size]; exact Nat.le_refl _, fun k _ hr => h.block k fun g e => by cases e; omega⟩
theorem own_only {lo c : Nat} {W W' : World} {v : Value} {xs : List Int} (h : kI.Own lo W v xs) (ho : OnlyAt (some ⟨c, 0, none⟩) W W') (hc : c < lo) : kI.Own lo W' v xs := h.keep fun k h1 _ => ho.block k fun g e => by cases e; omega
theorem own_len {lo : Nat} {W : World} {v : Value} {xs : List Int} (h : kI.Own lo W v xs) : rowLen v = xs.length := by
  obtain ⟨go, qc, rfl, _⟩ := h.fresh
  rfl
theorem below_between {lo c : Nat} {W W' : World} (h : Below lo W W') (hc : W.heap.size ≤ lo) : Between c (c + 1) W W' := ⟨h.os, h.tape, h.output, h.size, fun k hk _ => h.block k (by omega)⟩
theorem between_new {lo c : Nat} {V W W' : World} (hV : Between c (c + 1) V W) (h : Below lo W W') (hc : V.heap.size ≤ lo) : Between c (c + 1) V W' :=
  ⟨h.os.trans hV.os, h.tape.trans hV.tape, h.output.trans hV.output, Nat.le_trans hV.size h.size, fun k hk hr => (h.block k (by omega)).trans (hV.block k hk hr)⟩
set_option maxRecDepth 10000 in
set_option maxHeartbeats 4000000 in
theorem hearAll_any (c n : Nat) (xs : List Int) (w : World) (hx : xs.length ≤ 1048576) (h : ChB w c n xs) :
    Calls Try.prog 24 #[.chan (some c)] w fun e w' => (∃ go qc, e = .returned (.slice go xs.length qc) ∧ kI.Fresh w.heap.size w'.heap.size w' go qc xs) ∧ Between c (c + 1) w w' := by
  have HC := hid h
  have hc0 := h.lt
  clear h
  rcases xs with _ | ⟨x, r⟩
  · go_enter Try.func24, Try.ntmps24
    go_wp2_with fail
    refine (hearOn_none c n w HC.out).mono ?_
    rintro e w1 ⟨rfl, hw1⟩
    rw [hw1]; clear hw1 w1
    go_wp2
    go_loop [3, 4, 5] (fun u3 u4 u5 => u3 = .slice none 0 0 ∧ u4 = .int .i64 0 ∧ u5 = .bool false) (fun _ _ _ => 0)
    case atStart => exact ⟨rfl, rfl, rfl⟩
    case round =>
      obtain ⟨rfl, rfl, rfl⟩ := hrel
      go_wp2
      go_ret
      exact ⟨⟨none, 0, rfl, .inl rfl⟩, Between.refl _ _ _⟩
  · go_enter Try.func24, Try.ntmps24
    go_wp2_with fail
    refine (hearOn_some c n x r w HC.out).mono ?_
    rintro e w1 ⟨rfl, hC1, hO1⟩
    have HC1 := hid hC1
    have hT1 := hO1.between
    clear hC1 hO1 HC
    go_wp2
    obtain ⟨xs, hxs⟩ : ∃ xs, xs = x :: r := ⟨_, rfl⟩
    have HX := hid hxs
    have hx' : xs.length ≤ 1048576 := by rw [hxs]; exact hx
    clear hx hxs
    go_loopw [3, 4, 5] (fun u3 u4 u5 wr => ∃ v : Value, v = u3 ∧ (∃ k : Nat, k ≤ xs.length ∧ Hid (kI.Own w.heap.size wr v (xs.take k)) ∧ u5 = .bool (decide (k < xs.length)) ∧ (∃ z : Int, u4 = .int .i64 z ∧ (k < xs.length → z = el xs k)) ∧ Hid (ChB wr c n (xs.drop (k + 1)))) ∧ Between c (c + 1) w wr) (fun u3 _ _ _ => xs.length - rowLen u3)
    case atStart => exact ⟨_, rfl, ⟨0, Nat.zero_le _, Kind.Own.nil _ _ _, by rw [HX.out]; simp, ⟨x, rfl, fun _ => by rw [HX.out, el_zero]⟩, by rw [Hid, HX.out]; exact HC1.out⟩, hT1⟩
    case round =>
      clear HC1 hT1
      obtain ⟨v, rfl, ⟨k, hk, hO, rfl, ⟨z, rfl, hz⟩, hC⟩, hT⟩ := hrel
      have hsz := hT.size
      by_cases hlt : k < xs.length
      · have hd : decide (k < xs.length) = true := by simpa using hlt
        rw [hd]
        have hzk := hz hlt
        have HZ := hid hzk
        have HTK := hid (take_succ_el hlt)
        have hln : rowLen v = k := by rw [own_len hO.out]; simp; omega
        clear hz hzk hd
        have HA := hid (hO.out.below (below1 wr (.cells #[.int .i64 z] 3)))
        have HN : Hid (kI.In (wr.heap.size + 1) (wr.alloc (.cells #[.int .i64 z] 3)) (some ⟨wr.heap.size, 0, none⟩) [z]) := int_one (by omega) (by simp)
        have hll : (xs.take k).length + 1 ≤ 4194304 := by simp; omega
        have hCa := hid (hC.out.later (below1 wr (.cells #[.int .i64 z] 3)))
        have hTa := between_new hT (below1 wr (.cells #[.int .i64 z] 3)) hsz
        have HLN := hid hln
        clear hO hC hln
        go_wp2_with (first
          | (at_builtin; refine Kind.app kI_ok (wr.alloc (.cells #[.int .i64 z] 3)) rfl (.tmp 17) (.tmp 19) rfl w.heap.size v (xs.take k) rfl HA.out (by simp; omega) (some ⟨wr.heap.size, 0, none⟩) [z] 1 1 rfl rfl (by simp) _ HN.out hll ?_; intro v' w' hO' hB' hG' hn'; have O5 : Hid (kI.Own w.heap.size w' v' (xs.take (k + 1))) := (by rw [Hid, HTK.out, ← HZ.out]; exact hO'); have T5 := between_new hTa hB' (Nat.le_refl _); have C5 := hid (hCa.out.keep (hB'.block c (by omega))); have hs5 := T5.size; clear hO' hB' hG' hn')
          | fail)
        by_cases hlt2 : k + 1 < xs.length
        · have hdr : xs.drop (k + 1) = el xs (k + 1) :: xs.drop (k + 1 + 1) := by rw [el_at hlt2]; exact List.drop_eq_getElem_cons hlt2
          have C6 : Hid (ChB w' c n (el xs (k + 1) :: xs.drop (k + 1 + 1))) := by rw [Hid, ← hdr]; exact C5.out
          clear hdr C5
          refine (hearOn_some c n (el xs (k + 1)) (xs.drop (k + 1 + 1)) w' C6.out).mono ?_
          rintro e w6 ⟨rfl, hC6, hO6⟩
          have H6 := hid hC6
          have O6 := hid (own_only O5.out hO6 (by omega))
          have T6 := T5.trans hO6.between
          have hl6 : rowLen v' = k + 1 := by rw [own_len O5.out]; simp; omega
          have HL6 := hid hl6
          clear hC6 hO6 C6 O5 T5 hl6
          obtain ⟨z2, hz2⟩ : ∃ z2, z2 = el xs (k + 1) := ⟨_, rfl⟩
          rw [← hz2]
          have HZ2 := hid hz2
          clear hz2
          go_wp2
          go_roundw
          case rel => exact ⟨v', rfl, ⟨k + 1, by omega, O6, by simp [hlt2], ⟨z2, rfl, fun _ => HZ2.out⟩, H6⟩, T6⟩
          case measure => simp only [HL6.out, HLN.out]; omega
        · have hkl : k + 1 = xs.length := by omega
          have C6 : Hid (ChB w' c n []) := by have h := C5.out; rw [hkl, List.drop_length] at h; exact h
          have HKL := hid hkl
          clear C5 hkl
          refine (hearOn_none c n w' C6.out).mono ?_
          rintro e w6 ⟨rfl, hw6⟩
          rw [hw6]; clear hw6 w6
          have hl6 : rowLen v' = k + 1 := by rw [own_len O5.out]; simp; omega
          have HL6 := hid hl6
          clear hl6
          go_wp2
          go_roundw
          case rel => exact ⟨v', rfl, ⟨k + 1, by omega, O5, by simp [hlt2], ⟨0, rfl, fun h => absurd h hlt2⟩, by rw [Hid, List.drop_eq_nil_of_le (by have := HKL.out; omega)]; exact C6.out⟩, T5⟩
          case measure => simp only [HL6.out, HLN.out]; omega
      · obtain rfl : k = xs.length := by omega
        have hd : decide (xs.length < xs.length) = false := by simp
        rw [hd]
        rw [List.take_length] at hO
        obtain ⟨qo, qc, rfl, _, hF⟩ := hO.out.fresh
        have HF := hid hF
        clear hF hO hd hz
        go_wp2
        go_ret
        exact ⟨⟨_, _, by rw [HX.out]; rfl, by rw [← HX.out]; exact HF.out⟩, hT⟩
end Go.Proofs.Ytimkadnnhfllnaa
