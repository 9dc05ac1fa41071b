
/- Marks in rows of nodes. No conditions but those written. -/
import Derived.Test.YtmdgnlhnmnajkaaDoorNd
import Derived.Laws.BytesString
namespace Go.Proofs.YtmdgnlhnmnajkaaDoor
open Go.RowKit

theorem conv_one (W : World) (x : Int) : ∃ s, s.size = 1 ∧ (convert 77 9 (.slice (some ⟨W.heap.size, 0, none⟩) 1 1)).run Tryd.prog (W.alloc (.cells #[.int .u8 x] 5)) = .ok (.string s) (W.alloc (.cells #[.int .u8 x] 5)) := by
  refine ⟨[x].foldl (fun r n => r.push (UInt8.ofNat n.toNat)) ByteArray.empty, rfl, ?_⟩
  rw [run_convert_bytes_string _ _ _ 5 _ _ _ Tryd.underlying77 Tryd.underlying5 Tryd.underlying9]
  exact run_bytesToString _ _ _ _ [x] (by simp [loadCells, go_sem])
set_option maxRecDepth 10000 in
set_option maxHeartbeats 2000000 in
theorem markText_any (k0 : Int) (w : World) (hk0 : 0 ≤ k0) (hk1 : k0 ≤ 1000000000) :
    Calls Tryd.prog 38 #[.int .i64 k0] w fun e w' => (∃ s, e = .returned (.string s)) ∧ Below w.heap.size w w' := by
  by_cases h0 : k0 ≤ 0
  · go_enter Tryd.func38, Tryd.ntmps38
    go_wp2
    go_ret
    exact ⟨⟨_, rfl⟩, Below.refl _ _⟩
  · have h0' : decide (k0 ≤ 0) = false := by simpa using h0
    go_enter Tryd.func38, Tryd.ntmps38
    go_wp2
    go_loopw [0, 3] (fun v u wr => ∃ (k : Int) (s : ByteArray), v = .int .i64 k ∧ u = .string s ∧ 0 ≤ k ∧ k ≤ 1000000000 ∧ s.size + k.toNat ≤ 1000000000 ∧ Below w.heap.size w wr) (fun v _ _ => (intOf v).toNat)
    case atStart => exact ⟨k0, ⟨#[]⟩, rfl, rfl, hk0, hk1, by have : (⟨#[]⟩ : ByteArray).size = 0 := rfl; omega, Below.refl _ _⟩
    case round =>
      obtain ⟨k, s, rfl, rfl, hk, hkk, hs, hB⟩ := hrel
      by_cases hp : 0 < k
      · have hp' : decide (0 < k) = true := by simpa using hp
        obtain ⟨s1, hs1, hcv⟩ := conv_one wr (48 + k % 10)
        have hB2 : Below w.heap.size w (wr.alloc (.cells #[.int .u8 (48 + k % 10)] 5)) := Below.allocS hB _
        have hq0 : 0 ≤ k / 10 := by omega
        have hq1 : k / 10 < k := by omega
        go_wp2
        trace_state
        go_roundw
        case rel => exact ⟨k / 10, _, rfl, rfl, hq0, by omega, by rw [ByteArray.size_append]; omega, hB2⟩
        case measure => simp [intOf]; omega
      · obtain rfl : k = 0 := by omega
        clear hp
        go_wp2
        trace_state
        go_ret
        exact ⟨⟨_, rfl⟩, hB⟩
/-- Nodes that are being marked: what is in them counts no more, but where they lie. -/
structure MkN (lo hi : Nat) (W : World) (g : Nat) (us : List LNode) : Prop where
  low : lo ≤ g
  top : g < hi
  lt : g < W.heap.size
  cel : ∀ i, i < us.length → ∀ q, q < 5 → ∃ v, W.cell? ⟨g, i * 6 + q, none⟩ = some v
  nxt : ∀ i, i < us.length → W.cell? ⟨g, i * 6 + 5, none⟩ = some (.slice (el us i).2.2.2.2.2.1 (el us i).2.2.2.2.2.2.2.length (el us i).2.2.2.2.2.2.1)
  fro : ∀ q, W.frozen? ⟨g, q, none⟩ = false
  row : ∀ i, i < us.length → ∃ ys : List Int, ys.length = (el us i).2.2.2.2.2.2.2.length ∧ kI.Fresh lo hi W (el us i).2.2.2.2.2.1 (el us i).2.2.2.2.2.2.1 ys
  off : ∀ i, i < us.length → ¬ rowOwn (el us i).2.2.2.2.2.1 (el us i).2.2.2.2.2.2.2 g
  par : Parted dNode us
theorem rowOwn_len {α β : Type} {o : Option Addr} {xs : List α} {ys : List β} (h : xs.length = ys.length) {b : Nat} : rowOwn o xs b ↔ rowOwn o ys b := by unfold rowOwn; rw [h]
theorem MkN.of {lo hi : Nat} {W : World} {g c : Nat} {us : List LNode} (h : DFr dNode lo hi W (some ⟨g, 0, none⟩) c us) (h0 : 0 < us.length) : MkN lo hi W g us := by
  have h1 : hNode.Fresh lo hi W (some ⟨g, 0, none⟩) c us := h.1
  obtain ⟨g2, e2, hg1, hg2, hg3, ho⟩ := h1.at h0
  simp at e2; subst e2
  have hcs : ∀ i, i < us.length → W.cell? ⟨g, i * 6, none⟩ = some (.string (el us i).1) ∧ W.cell? ⟨g, i * 6 + 1, none⟩ = some (.int .i64 (el us i).2.1) ∧ W.cell? ⟨g, i * 6 + 2, none⟩ = some (.int .i64 (el us i).2.2.1) ∧ W.cell? ⟨g, i * 6 + 3, none⟩ = some (.int .i64 (el us i).2.2.2.1) ∧ W.cell? ⟨g, i * 6 + 4, none⟩ = some (.int .i64 (el us i).2.2.2.2.1) ∧ W.cell? ⟨g, i * 6 + 5, none⟩ = some (.slice (el us i).2.2.2.2.2.1 (el us i).2.2.2.2.2.2.2.length (el us i).2.2.2.2.2.2.1) := fun i hi' => by
    obtain ⟨b0, off, eb, _, hc⟩ := hNode_at h1.in hi'
    obtain ⟨rfl, rfl⟩ : b0 = g ∧ off = 0 := by simp at eb; exact ⟨eb.1.symm, eb.2.symm⟩
    have hc' := hc i hi'
    simp only [Nat.zero_add] at hc'
    exact hc'
  refine ⟨hg1, hg2, hg3, fun i hi' q hq => ?_, fun i hi' => (hcs i hi').2.2.2.2.2, fun q => ho.frozenAt q, fun i hi' => ⟨_, rfl, h.2.1 i hi'⟩, fun i hi' hr => h.head dNode_ok hi' hr ⟨h0, rfl⟩, h.2.2⟩
  have h6 := hcs i hi'
  rcases (show q = 0 ∨ q = 1 ∨ q = 2 ∨ q = 3 ∨ q = 4 from by omega) with rfl | rfl | rfl | rfl | rfl
  · exact ⟨_, h6.1⟩
  · exact ⟨_, h6.2.1⟩
  · exact ⟨_, h6.2.2.1⟩
  · exact ⟨_, h6.2.2.2.1⟩
  · exact ⟨_, h6.2.2.2.2.1⟩
theorem MkN.later {lo hi : Nat} {W W' : World} {g : Nat} {us : List LNode} (h : MkN lo hi W g us) (hb : Below W.heap.size W W') : MkN lo hi W' g us :=
  ⟨h.low, h.top, Nat.lt_of_lt_of_le h.lt hb.size, fun i hi' q hq => by obtain ⟨v, hv⟩ := h.cel i hi' q hq; exact ⟨v, (hb.cell (p := ⟨g, i * 6 + q, none⟩) h.lt).trans hv⟩, fun i hi' => (hb.cell (p := ⟨g, i * 6 + 5, none⟩) h.lt).trans (h.nxt i hi'), fun q => (hb.frozen (p := ⟨g, q, none⟩) h.lt).trans (h.fro q), fun i hi' => by obtain ⟨ys, hy, hF⟩ := h.row i hi'; exact ⟨ys, hy, hF.later hb⟩, h.off, h.par⟩
theorem MkN.set {lo hi : Nat} {W : World} {g : Nat} {us : List LNode} (h : MkN lo hi W g us) {i q : Nat} (hi' : i < us.length) (hq : q < 5) (u : Value) : MkN lo hi (W.setCell ⟨g, i * 6 + q, none⟩ u) g us := by
  obtain ⟨v0, hv0⟩ := h.cel i hi' q hq
  have far : ∀ p, p ≠ i * 6 + q → (W.setCell ⟨g, i * 6 + q, none⟩ u).cell? ⟨g, p, none⟩ = W.cell? ⟨g, p, none⟩ := fun p hp => by simp [go_sem]
  refine ⟨h.low, h.top, by simpa [World.setCell] using h.lt, fun j hj p hp => ?_, fun j hj => (far _ (by omega)).trans (h.nxt j hj), fun p => by simpa [go_sem] using h.fro p, fun j hj => ?_, h.off, h.par⟩
  · by_cases e : j * 6 + p = i * 6 + q
    · rw [e]; exact ⟨u, by simp [go_sem, hv0]⟩
    · obtain ⟨v, hv⟩ := h.cel j hj p hp
      exact ⟨v, (far _ e).trans hv⟩
  · obtain ⟨ys, hy, hF⟩ := h.row j hj
    exact ⟨ys, hy, hF.keepB fun b hb => Below.heap_setCell _ _ _ _ (fun e => h.off j hj (by simp only at e; rw [← e]; exact (rowOwn_len hy).1 hb))⟩
theorem Between.set {lo hi : Nat} (W : World) {a : Addr} (h1 : lo ≤ a.block) (h2 : a.block < hi) (u : Value) : Between lo hi W (W.setCell a u) :=
  ⟨rfl, rfl, rfl, by simp [World.setCell], fun k _ hr => Below.heap_setCell W a u k (by omega)⟩
theorem MkN.turn {lo hi : Nat} {W W' : World} {g : Nat} {us : List LNode} (h : MkN lo hi W g us) {i : Nat} (hi' : i < us.length) {ys : List Int} (hy : ys.length = (el us i).2.2.2.2.2.2.2.length) (hF : kI.Fresh lo hi W' (el us i).2.2.2.2.2.1 (el us i).2.2.2.2.2.2.1 ys) (hO : OnlyAt (eff (el us i).2.2.2.2.2.1 (el us i).2.2.2.2.2.2.2.length) W W') : MkN lo hi W' g us := by
  have hg : W'.heap[g]? = W.heap[g]? := only_own hO (h.off i hi')
  refine ⟨h.low, h.top, by rw [hO.size]; exact h.lt, fun j hj q hq => ?_, fun j hj => (World.cell?_of_block (a := ⟨g, j * 6 + 5, none⟩) hg).trans (h.nxt j hj), fun q => (World.frozen?_of_block (a := ⟨g, q, none⟩) hg).trans (h.fro q), fun j hj => ?_, h.off, h.par⟩
  · obtain ⟨v, hv⟩ := h.cel j hj q hq
    exact ⟨v, (World.cell?_of_block (a := ⟨g, j * 6 + q, none⟩) hg).trans hv⟩
  · by_cases e : j = i
    · subst e; exact ⟨ys, hy, hF⟩
    · obtain ⟨zs, hz, hFz⟩ := h.row j hj
      refine ⟨zs, hz, hFz.keepB fun b hb => only_own hO fun hb2 => ?_⟩
      have hb1 : dNode.own (el us j) b := (rowOwn_len hz).1 hb
      rcases Nat.lt_or_gt_of_ne e with hl | hl
      · exact h.par j i hl hi' b hb1 hb2
      · exact h.par i j hl hj b hb2 hb1
set_option maxRecDepth 10000 in
set_option maxHeartbeats 4000000 in
theorem markNodeS_any (lo hi g c : Nat) (us : List LNode) (w : World) (hl : us.length ≤ 1048576) (ht : totNode us ≤ 1048576) (hF : DFr dNode lo hi w (some ⟨g, 0, none⟩) c us) :
    Calls Tryd.prog 16 #[.slice (some ⟨g, 0, none⟩) us.length c, .int .i64 1] w fun e w' => (∃ k : Int, e = .returned (.int .i64 k) ∧ 0 ≤ k) ∧ Between lo hi w w' := by
  rcases Nat.eq_zero_or_pos us.length with h0 | h0
  · obtain rfl : us = [] := List.length_eq_zero_iff.1 h0
    clear hF
    go_enter Tryd.func16, Tryd.ntmps16
    go_wp2
    go_loop [1, 5] (fun v i => v = .int .i64 1 ∧ i = .int .i64 0) (fun _ _ => 0)
    case atStart => exact ⟨rfl, rfl⟩
    case round =>
      obtain ⟨rfl, rfl⟩ := hrel
      go_wp2
      go_ret
      exact ⟨⟨1, rfl, by omega⟩, Between.refl _ _ _⟩
  · have HM := hid (MkN.of hF h0)
    clear hF
    go_enter Tryd.func16, Tryd.ntmps16
    go_wp2
    go_loopw [1, 5] (fun v j wr => ∃ (i : Nat) (k : Int), i ≤ us.length ∧ j = .int .i64 i ∧ v = .int .i64 k ∧ 0 ≤ k ∧ k ≤ 1 + 5 * (i : Int) + totNode (us.take i) ∧ Hid (MkN lo hi wr g us) ∧ Hid (Between lo hi w wr)) (fun _ j _ => us.length - (intOf j).toNat)
    case atStart => exact ⟨0, 1, Nat.zero_le _, rfl, rfl, by omega, by simp [totNode], HM, Between.refl _ _ _⟩
    case round =>
      clear HM
      obtain ⟨i, k, hi', rfl, rfl, hk, hkk, hM, hB⟩ := hrel
      by_cases hlt : i < us.length
      · have ht1 := totNode_take hlt
        have ht2 := totNode_el hlt
        have hii : (i : Int) < (us.length : Int) := by omega
        unfold sizeNode at ht1 ht2
        go_wp2_with fail
        refine (markText_any k wr hk (by omega)).mono ?_
        rintro e w1 ⟨⟨s, rfl⟩, hb1⟩
        have hM1 := hid (hM.out.later hb1)
        have hB1 := hid (hB.out.trans (Between.of_below hb1))
        clear hb1 hM hB
        obtain ⟨v0, c0⟩ := hM1.out.cel i hlt 0 (by omega)
        obtain ⟨v1, c1⟩ := hM1.out.cel i hlt 1 (by omega)
        obtain ⟨v2, c2⟩ := hM1.out.cel i hlt 2 (by omega)
        obtain ⟨v3, c3⟩ := hM1.out.cel i hlt 3 (by omega)
        obtain ⟨v4, c4⟩ := hM1.out.cel i hlt 4 (by omega)
        have c5 := hM1.out.nxt i hlt
        have f0 := hM1.out.fro (i * 6)
        have f1 := hM1.out.fro (i * 6 + 1)
        have f2 := hM1.out.fro (i * 6 + 2)
        have f3 := hM1.out.fro (i * 6 + 3)
        have f4 := hM1.out.fro (i * 6 + 4)
        rw [Nat.add_zero] at c0
        have hgs := hM1.out.lt
        have HM5 := hid (((((hM1.out.set hlt (show 0 < 5 by omega) (.string s)).set hlt (show 1 < 5 by omega) (.int .i64 (k + 1))).set hlt (show 2 < 5 by omega) (.int .i64 (k + 1 + 1))).set hlt (show 3 < 5 by omega) (.int .i64 (k + 1 + 1 + 1))).set hlt (show 4 < 5 by omega) (.int .i64 (k + 1 + 1 + 1 + 1)))
        have hlo := hM1.out.low
        have hhi := hM1.out.top
        have HB5 := hid (hB1.out.trans (((((Between.set w1 (a := ⟨g, i * 6 + 0, none⟩) hlo hhi (.string s)).trans (Between.set _ (a := ⟨g, i * 6 + 1, none⟩) hlo hhi (.int .i64 (k + 1)))).trans (Between.set _ (a := ⟨g, i * 6 + 2, none⟩) hlo hhi (.int .i64 (k + 1 + 1)))).trans (Between.set _ (a := ⟨g, i * 6 + 3, none⟩) hlo hhi (.int .i64 (k + 1 + 1 + 1)))).trans (Between.set _ (a := ⟨g, i * 6 + 4, none⟩) hlo hhi (.int .i64 (k + 1 + 1 + 1 + 1)))))
        rw [Nat.add_zero] at HM5 HB5
        obtain ⟨W5, hW5⟩ : ∃ W5, W5 = ((((w1.setCell ⟨g, i * 6, none⟩ (.string s)).setCell ⟨g, i * 6 + 1, none⟩ (.int .i64 (k + 1))).setCell ⟨g, i * 6 + 2, none⟩ (.int .i64 (k + 1 + 1))).setCell ⟨g, i * 6 + 3, none⟩ (.int .i64 (k + 1 + 1 + 1))).setCell ⟨g, i * 6 + 4, none⟩ (.int .i64 (k + 1 + 1 + 1 + 1)) := ⟨_, rfl⟩
        rw [← hW5] at HM5 HB5
        have HW5 := hid hW5
        clear hW5 hM1 hB1
        obtain ⟨ys, hy, hFy⟩ := HM5.out.row i hlt
        have HFY := hid hFy
        have HTU := hid (fun W' zs h1 h2 h3 => HM5.out.turn (W' := W') hlt (ys := zs) h1 h2 h3)
        obtain ⟨nxo, h1⟩ : ∃ nxo, nxo = (el us i).2.2.2.2.2.1 := ⟨_, rfl⟩
        obtain ⟨nxc, h2⟩ : ∃ nxc, nxc = (el us i).2.2.2.2.2.2.1 := ⟨_, rfl⟩
        obtain ⟨n, h3⟩ : ∃ n, n = (el us i).2.2.2.2.2.2.2.length := ⟨_, rfl⟩
        rw [← h1, ← h2] at HFY
        rw [← h1, ← h2, ← h3] at c5
        rw [← h1, ← h2, ← h3] at HTU
        rw [← h3] at ht1 ht2 hy
        clear h1 h2 h3 HM5 hFy
        go_wp2_with fail
        rw [← HW5.out]
        have hmk := markIntS_any lo hi nxo nxc ys (k + 1 + 1 + 1 + 1 + 1) W5 (by omega) (by omega) (by omega) HFY.out
        rw [hy] at hmk
        refine hmk.mono ?_
        rintro e w6 ⟨rfl, hF6, hO6⟩
        have hM6 := hid (HTU.out w6 _ (by rw [markI_len]) hF6 hO6)
        have hB6 := hid (HB5.out.trans (HFY.out.between (by rw [hy]; exact hO6)))
        clear hF6 hO6
        go_wp2
        go_roundw
        case rel => exact ⟨i + 1, k + 1 + 1 + 1 + 1 + 1 + n, by omega, by go_num, rfl, by omega, by rw [ht1]; push_cast; omega, hM6, hB6⟩
        case measure => simp [intOf]; omega
      · obtain rfl : i = us.length := by omega
        go_wp2
        go_ret
        exact ⟨⟨k, rfl, hk⟩, hB.out⟩
end Go.Proofs.YtmdgnlhnmnajkaaDoor
