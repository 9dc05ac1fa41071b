/- Rows without a task. No conditions but those written. -/
import Derived.Test.YtlnjhajdbofhlaaEb
namespace Go.Proofs.Ytlnjhajdbofhlaa
open Go.RowKit

/-- Those of other tasks. -/
def outT (ts : List T3) (task : Int) : List T3 := ts.filter (fun t => t.1 != task)
theorem outT_len (ts : List T3) (task : Int) : (outT ts task).length ≤ ts.length := List.length_filter_le _ _
theorem outT_snoc {ts : List T3} {j : Nat} (hj : j < ts.length) (task : Int) : outT (ts.take (j + 1)) task = outT (ts.take j) task ++ (if (t3 ts j).1 = task then [] else [t3 ts j]) := by
  have e : ts.take (j + 1) = ts.take j ++ [t3 ts j] := by rw [List.take_add_one, List.getElem?_eq_getElem hj, t3_at hj]; rfl
  rw [e, outT, List.filter_append]
  by_cases h : (t3 ts j).1 = task <;> simp [h, outT]

set_option maxRecDepth 10000 in
set_option maxHeartbeats 4000000 in
theorem l3Without_any (ao : Option Addr) (cap : Nat) (ts : List T3) (task : Int) (w : World) (hl : ts.length ≤ 1048576) (hz : TimersIn w.heap.size w ao ts) :
    Calls Try.prog 143 #[.slice ao ts.length cap, .int .i64 task] w fun e w' => (∃ to tc, e = .returned (.slice to (outT ts task).length tc) ∧ FreshC w.heap.size w'.heap.size w' to tc (outT ts task) ∧ Wf to tc) ∧ Below w.heap.size w w' := by
  go_enter Try.func143, Try.ntmps143
  go_wp2
  go_loopw [5, 10] (fun z i wr => ∃ (j : Nat) (vz : Value), i = .int .i64 (j : Int) ∧ vz = z ∧ j ≤ ts.length ∧ Hid (OwnV w.heap.size wr vz (outT (ts.take j) task)) ∧ Below w.heap.size w wr) (fun _ i _ => ts.length - (intOf i).toNat)
  case atStart => exact ⟨0, .slice none 0 0, rfl, rfl, Nat.zero_le _, OwnV.nil _ _, Below.refl _ _⟩
  case round =>
    obtain ⟨j, vz, rfl, rfl, hj, hO, hB⟩ := hrel
    have hsB := hB.size
    by_cases hlt : j < ts.length
    · obtain ⟨b, off, rfl, hb, hc⟩ := hz.pos hlt
      obtain ⟨c1, c2, c3⟩ := hc j hlt
      have d1 := (hB.cell (p := ⟨b, off + j * 3, none⟩) hb).trans c1
      have d2 := (hB.cell (p := ⟨b, off + j * 3 + 1, none⟩) hb).trans c2
      have d3 := (hB.cell (p := ⟨b, off + j * 3 + 2, none⟩) hb).trans c3
      have hsn := outT_snoc hlt task
      have hil : (outT (ts.take j) task).length ≤ 1048576 := Nat.le_trans (outT_len _ _) (by simp; omega)
      obtain ⟨⟨x1, x2, x3⟩, ex⟩ : ∃ x, x = t3 ts j := ⟨_, rfl⟩
      rw [← ex] at d1 d2 d3 hsn
      have HSN : Hid (outT (ts.take (j + 1)) task = outT (ts.take j) task ++ (if x1 = task then [] else [(x1, x2, x3)])) := hsn
      clear ex c1 c2 c3 hc hsn
      dsimp only at d1 d2 d3
      have hji : (j : Int) < (ts.length : Int) := by omega
      by_cases hx : x1 = task
      · have hx' : (x1 != task) = false := by simpa using hx
        have HK : Hid (OwnV w.heap.size (wr.alloc (.cells #[.int .i64 x1, .int .i64 x2, .int .i64 x3] 28)) vz (outT (ts.take (j + 1)) task)) := by
          rw [HSN.out, if_pos hx, List.append_nil]; exact hO.out.below (below1 _ _)
        clear hx
        go_wp2
        go_roundw
        case rel => exact ⟨j + 1, vz, by go_num, rfl, by omega, HK.out, hB.alloc hsB _⟩
        case measure => simp [intOf]; omega
      · have hx' : (x1 != task) = true := by simpa using hx
        have HE : Hid (outT (ts.take (j + 1)) task = outT (ts.take j) task ++ [(x1, x2, x3)]) := by rw [Hid, HSN.out, if_neg hx]
        have HOA : Hid (OwnV w.heap.size ((wr.alloc (.cells #[.int .i64 x1, .int .i64 x2, .int .i64 x3] 28)).alloc (.cells #[.int .i64 x1, .int .i64 x2, .int .i64 x3] 28)) vz (outT (ts.take j) task)) := hO.out.below (below2 _ _ _)
        have HTI : Hid (TimersIn (wr.heap.size + 1 + 1) ((wr.alloc (.cells #[.int .i64 x1, .int .i64 x2, .int .i64 x3] 28)).alloc (.cells #[.int .i64 x1, .int .i64 x2, .int .i64 x3] 28)) (some ⟨wr.heap.size + 1, 0, none⟩) [(x1, x2, x3)]) :=
          .inr ⟨wr.heap.size + 1, 0, rfl, by omega, fun j hj => by
            obtain rfl : j = 0 := by simpa using hj
            exact ⟨by simp [t3], by simp [t3], by simp [t3]⟩⟩
        clear hx
        go_wp2_with (at_builtin; refine wpList_appW ((wr.alloc (.cells #[.int .i64 x1, .int .i64 x2, .int .i64 x3] 28)).alloc (.cells #[.int .i64 x1, .int .i64 x2, .int .i64 x3] 28)) rfl (.tmp 18) (.tmp 20) rfl w.heap.size vz (outT (ts.take j) task) rfl HOA.out (by simp; omega) ⟨wr.heap.size + 1, 0, none⟩ [(x1, x2, x3)] 1 1 rfl rfl _ HTI.out (by simp; omega) ?_; intro v5 w5 hO5 hB5 _ _; have HO5 : Hid (OwnV w.heap.size w5 v5 (outT (ts.take (j + 1)) task) ∧ Below w.heap.size w w5) := ⟨(by rw [HE.out]; exact hO5), hB.trans (((below2 wr _ _).mono hsB).trans hB5)⟩; clear hO5 hB5)
        go_roundw
        case rel => exact ⟨j + 1, v5, by go_num, rfl, by omega, HO5.out.1, HO5.out.2⟩
        case measure => simp [intOf]; omega
    · obtain rfl : j = ts.length := by omega
      have hO' := hO.out
      rw [List.take_length] at hO'
      obtain ⟨to, tc, rfl, hF, hwf⟩ := hO'.fresh
      have HF : Hid (FreshC w.heap.size wr.heap.size wr to tc (outT ts task)) := hF
      clear hO' hO hF
      go_wp2
      go_ret
      exact ⟨⟨to, tc, rfl, HF.out, hwf⟩, hB⟩
end Go.Proofs.Ytlnjhajdbofhlaa
