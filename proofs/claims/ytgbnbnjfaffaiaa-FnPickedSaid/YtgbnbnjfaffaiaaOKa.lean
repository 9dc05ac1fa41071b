
/- The specification's list without one number. No conditions but those written. -/
import Derived.Test.YtgbnbnjfaffaiaaOMj
namespace Go.Proofs.Ytgbnbnjfaffaiaa.Old
open Go.RowKit

/-- The numbers of q that are not n. -/
def wout (q : List Int) (n : Int) : List Int := q.filter (fun x => x != n)
theorem wout_snoc (q : List Int) (n : Int) (k : Nat) (h : k < q.length) : wout (q.take (k + 1)) n = if q[k]?.getD 0 = n then wout (q.take k) n else wout (q.take k) n ++ [q[k]?.getD 0] := by
  rw [take_snoc q k 0 h, wout, List.filter_append]
  by_cases e : q[k]?.getD 0 = n <;> simp [wout, e]
theorem wout_len (q : List Int) (n : Int) : (wout q n).length ≤ q.length := List.length_filter_le _ _
theorem wout_take_len (q : List Int) (n : Int) (k : Nat) : (wout (q.take k) n).length ≤ k := Nat.le_trans (wout_len _ _) (List.length_take_le _ _)

set_option maxHeartbeats 2000000 in
theorem l1Without_any (ao : Option Addr) (cap : Nat) (q : List Int) (n : Int) (w : World) (hl : q.length ≤ 1048576) (hz : IntsIn w.heap.size w ao q) :
    Calls Try.prog 27 #[.slice ao q.length cap, .int .i64 n] w fun e w' => (∃ go qc, e = .returned (.slice go (wout q n).length qc) ∧ FreshI w.heap.size w'.heap.size w' go qc (wout q n) ∧ (wout q n = [] → qc = 0)) ∧ Below w.heap.size w w' := by
  go_enter Try.func27, Try.ntmps27
  go_wp2
  go_loopw [5, 10] (fun v i wr => ∃ (k : Nat) (go : Option Addr) (qc : Nat), k ≤ q.length ∧ i = .int .i64 k ∧ v = .slice go (wout (q.take k) n).length qc ∧ Hid (FreshI w.heap.size wr.heap.size wr go qc (wout (q.take k) n) ∧ (wout (q.take k) n = [] → qc = 0)) ∧ Below w.heap.size w wr) (fun _ i _ => q.length - (intOf i).toNat)
  case atStart => exact ⟨0, none, 0, Nat.zero_le _, rfl, by simp [wout], ⟨.inl (by simp [wout]), fun _ => rfl⟩, Below.refl _ _⟩
  case round =>
    obtain ⟨k, go, qc, hk, rfl, rfl, ho, hnx⟩ := hrel
    by_cases hlt : k < q.length
    · obtain ⟨b, off, rfl, hb, hc⟩ := hz.pos hlt
      have hck := (hnx.cell (p := ⟨b, off + k, none⟩) hb).trans (hc k hlt)
      have hS := wout_snoc q n k hlt
      have hwl := wout_take_len q n k
      clear hc hz
      obtain ⟨x, hx⟩ : ∃ x, x = q[k]?.getD 0 := ⟨_, rfl⟩
      rw [← hx] at hck hS
      have HS : Hid (wout (q.take (k + 1)) n = if x = n then wout (q.take k) n else wout (q.take k) n ++ [x]) := hS
      clear hx hS
      generalize wout (q.take k) n = F at *
      by_cases he : x = n
      · have he' : (x != n) = false := by simpa using he
        have HS2 : Hid (wout (q.take (k + 1)) n = F) := by rw [Hid, HS.out, if_pos he]
        clear he
        go_wp2
        go_roundw
        case rel => exact ⟨k + 1, go, qc, by omega, by go_num, by rw [HS2.out], by rw [HS2.out]; exact ho, hnx⟩
        case measure => simp [intOf]; omega
      · have he' : (x != n) = true := by simpa using he
        have HS2 : Hid (wout (q.take (k + 1)) n = F ++ [x]) := by rw [Hid, HS.out, if_neg he]
        have hsz := hnx.size
        have HX : Hid (w.heap.size ≤ (wr.alloc (.cells #[.int .i64 x] 3)).heap.size ∧ (wr.alloc (.cells #[.int .i64 x] 3)).cell? ⟨wr.heap.size, 0, none⟩ = some (.int .i64 x)) := ⟨by simp; omega, by simp⟩
        clear he
        go_wp2_with (at_builtin; refine wpList_push3 (wr.alloc (.cells #[.int .i64 x] 3)) rfl (.tmp 17) (.tmp 19) rfl w.heap.size wr.heap.size go qc F rfl (ho.out.1.later (below1 _ _)) HX.out.1 ho.out.2 (push_none ho.out.1 ho.out.2) (by omega) wr.heap.size x 1 rfl HX.out.2 ?_; intro g' qc' w5 hI5 hz5 ho5 ht5 hp5 hk5; have hz6 : wr.heap.size + 1 ≤ w5.heap.size := (by simpa using hz5); have hlow : ∀ k, k < w.heap.size → w5.heap[k]? = wr.heap[k]? := (fun k hk => (push_low (ho.out.1.later (below1 _ _)) hk5 k hk (by simp <;> omega)).trans (Below.heap_alloc _ _ k (by omega))); have HF : Hid (FreshI w.heap.size w5.heap.size w5 (some ⟨g', 0, none⟩) qc' (F ++ [x]) ∧ Below w.heap.size w w5) := ⟨hI5, hnx.trans ⟨ho5, ht5, hp5, by omega, fun k hk => hlow k hk⟩⟩; clear hI5 hk5 hlow ho5 ht5 hp5)
        go_roundw
        case rel => exact ⟨k + 1, some ⟨g', 0, none⟩, qc', by omega, by go_num, by rw [HS2.out]; simp, ⟨by rw [HS2.out]; exact HF.out.1, by rw [HS2.out]; simp⟩, HF.out.2⟩
        case measure => simp [intOf]; omega
    · obtain rfl : k = q.length := by omega
      rw [List.take_length] at *
      go_wp2
      go_ret
      exact ⟨⟨go, qc, by simp, ho.out.1, ho.out.2⟩, hnx⟩
end Go.Proofs.Ytgbnbnjfaffaiaa.Old
