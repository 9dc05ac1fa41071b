/- Marks in rows of nodes. No conditions but those written. Marks of a graph, and how far they count. No conditions but those written. The walk of the law of PlayPipe: it returns true. No conditions but those written. -/
import Derived.Test.YtoeonbdoopboiaaGreatDoorPRniMvk
import Derived.Test.YtoeonbdoopboiaaGreatDoorPDpFx
import Derived.Laws.BytesString
import Derived.Test.YtoeonbdoopboiaaGreatDoorPPmaPpa
import Derived.Test.YtoeonbdoopboiaaGreatDoorPSpiMvr
namespace Go.Proofs.YtoeonbdoopboiaaGreatDoor
section
open Go.RowKit

theorem conv_one (W : World) (x : Int) : ∃ s, s.size = 1 ∧ (convert 123 9 (.slice (some ⟨W.heap.size, 0, none⟩) 1 1)).run Tryz.prog (W.alloc (.cells #[.int .u8 x] 5)) = .ok (.string s) (W.alloc (.cells #[.int .u8 x] 5)) := by
  refine ⟨[x].foldl (fun r n => r.push (UInt8.ofNat n.toNat)) ByteArray.empty, rfl, ?_⟩
  rw [run_convert_bytes_string _ _ _ 5 _ _ _ Tryz.underlying123 Tryz.underlying5 Tryz.underlying9]
  exact run_bytesToString _ _ _ _ [x] (by simp [loadCells, go_sem])
set_option maxRecDepth 10000 in
set_option maxHeartbeats 2000000 in
theorem markText_any (k0 : Int) (w : World) (hk0 : 0 ≤ k0) (hk1 : k0 ≤ 1000000000) :
    Calls Tryz.prog 46 #[.int .i64 k0] w fun e w' => (∃ s, e = .returned (.string s)) ∧ Below w.heap.size w w' := by
  by_cases h0 : k0 ≤ 0
  · go_enter Tryz.func46, Tryz.ntmps46
    go_wp2
    go_ret
    exact ⟨⟨_, rfl⟩, Below.refl _ _⟩
  · have h0' : decide (k0 ≤ 0) = false := by simpa using h0
    go_enter Tryz.func46, Tryz.ntmps46
    go_wp2
    go_loopw [0, 3] (fun v u wr => ∃ (k : Int) (s : ByteArray), v = .int .i64 k ∧ u = .string s ∧ 0 ≤ k ∧ k ≤ 1000000000 ∧ s.size + k.toNat ≤ 1000000000 ∧ Below w.heap.size w wr) (fun v _ _ => (intOf v).toNat)
    case atStart => exact ⟨k0, ⟨#[]⟩, rfl, rfl, hk0, hk1, by have : (⟨#[]⟩ : ByteArray).size = 0 := rfl; omega, Below.refl _ _⟩
    case round =>
      obtain ⟨k, s, rfl, rfl, hk, hkk, hs, hB⟩ := hrel
      by_cases hp : 0 < k
      · have hp' : decide (0 < k) = true := by simpa using hp
        obtain ⟨s1, hs1, hcv⟩ := conv_one wr (48 + k % 10)
        have hB2 : Below w.heap.size w (wr.alloc (.cells #[.int .u8 (48 + k % 10)] 5)) := Below.allocS hB _
        have hq0 : 0 ≤ k / 10 := by omega
        have hq1 : k / 10 < k := by omega
        go_wp2
        go_roundw
        case rel => exact ⟨k / 10, _, rfl, rfl, hq0, by omega, by rw [ByteArray.size_append]; omega, hB2⟩
        case measure => simp [intOf]; omega
      · obtain rfl : k = 0 := by omega
        clear hp
        go_wp2
        go_ret
        exact ⟨⟨_, rfl⟩, hB⟩
/-- Nodes that are being marked: what is in them counts no more, but where they lie. -/
structure MkN (lo hi : Nat) (W : World) (g : Nat) (us : List LNode) : Prop where
  low : lo ≤ g
  top : g < hi
  lt : g < W.heap.size
  cel : ∀ i, i < us.length → ∀ q, q < 5 → ∃ v, W.cell? ⟨g, i * 6 + q, none⟩ = some v
  nxt : ∀ i, i < us.length → W.cell? ⟨g, i * 6 + 5, none⟩ = some (.slice (el us i).2.2.2.2.2.1 (el us i).2.2.2.2.2.2.2.length (el us i).2.2.2.2.2.2.1)
  fro : ∀ q, W.frozen? ⟨g, q, none⟩ = false
  row : ∀ i, i < us.length → ∃ ys : List Int, ys.length = (el us i).2.2.2.2.2.2.2.length ∧ kI.Fresh lo hi W (el us i).2.2.2.2.2.1 (el us i).2.2.2.2.2.2.1 ys
  off : ∀ i, i < us.length → ¬ rowOwn (el us i).2.2.2.2.2.1 (el us i).2.2.2.2.2.2.2 g
  par : Parted dNode us
theorem rowOwn_len {α β : Type} {o : Option Addr} {xs : List α} {ys : List β} (h : xs.length = ys.length) {b : Nat} : rowOwn o xs b ↔ rowOwn o ys b := by unfold rowOwn; rw [h]
theorem MkN.of {lo hi : Nat} {W : World} {g c : Nat} {us : List LNode} (h : DFr dNode lo hi W (some ⟨g, 0, none⟩) c us) (h0 : 0 < us.length) : MkN lo hi W g us := by
  have h1 : hNode.Fresh lo hi W (some ⟨g, 0, none⟩) c us := h.1
  obtain ⟨g2, e2, hg1, hg2, hg3, ho⟩ := h1.at h0
  simp at e2; subst e2
  have hcs : ∀ i, i < us.length → W.cell? ⟨g, i * 6, none⟩ = some (.string (el us i).1) ∧ W.cell? ⟨g, i * 6 + 1, none⟩ = some (.int .i64 (el us i).2.1) ∧ W.cell? ⟨g, i * 6 + 2, none⟩ = some (.int .i64 (el us i).2.2.1) ∧ W.cell? ⟨g, i * 6 + 3, none⟩ = some (.int .i64 (el us i).2.2.2.1) ∧ W.cell? ⟨g, i * 6 + 4, none⟩ = some (.int .i64 (el us i).2.2.2.2.1) ∧ W.cell? ⟨g, i * 6 + 5, none⟩ = some (.slice (el us i).2.2.2.2.2.1 (el us i).2.2.2.2.2.2.2.length (el us i).2.2.2.2.2.2.1) := fun i hi' => by
    obtain ⟨b0, off, eb, _, hc⟩ := hNode_at h1.in hi'
    obtain ⟨rfl, rfl⟩ : b0 = g ∧ off = 0 := by simp at eb; exact ⟨eb.1.symm, eb.2.symm⟩
    have hc' := hc i hi'
    simp only [Nat.zero_add] at hc'
    exact hc'
  refine ⟨hg1, hg2, hg3, fun i hi' q hq => ?_, fun i hi' => (hcs i hi').2.2.2.2.2, fun q => ho.frozenAt q, fun i hi' => ⟨_, rfl, h.2.1 i hi'⟩, fun i hi' hr => h.head dNode_ok hi' hr ⟨h0, rfl⟩, h.2.2⟩
  have h6 := hcs i hi'
  rcases (show q = 0 ∨ q = 1 ∨ q = 2 ∨ q = 3 ∨ q = 4 from by omega) with rfl | rfl | rfl | rfl | rfl
  · exact ⟨_, h6.1⟩
  · exact ⟨_, h6.2.1⟩
  · exact ⟨_, h6.2.2.1⟩
  · exact ⟨_, h6.2.2.2.1⟩
  · exact ⟨_, h6.2.2.2.2.1⟩
theorem MkN.later {lo hi : Nat} {W W' : World} {g : Nat} {us : List LNode} (h : MkN lo hi W g us) (hb : Below W.heap.size W W') : MkN lo hi W' g us :=
  ⟨h.low, h.top, Nat.lt_of_lt_of_le h.lt hb.size, fun i hi' q hq => by obtain ⟨v, hv⟩ := h.cel i hi' q hq; exact ⟨v, (hb.cell (p := ⟨g, i * 6 + q, none⟩) h.lt).trans hv⟩, fun i hi' => (hb.cell (p := ⟨g, i * 6 + 5, none⟩) h.lt).trans (h.nxt i hi'), fun q => (hb.frozen (p := ⟨g, q, none⟩) h.lt).trans (h.fro q), fun i hi' => by obtain ⟨ys, hy, hF⟩ := h.row i hi'; exact ⟨ys, hy, hF.later hb⟩, h.off, h.par⟩
theorem MkN.set {lo hi : Nat} {W : World} {g : Nat} {us : List LNode} (h : MkN lo hi W g us) {i q : Nat} (hi' : i < us.length) (hq : q < 5) (u : Value) : MkN lo hi (W.setCell ⟨g, i * 6 + q, none⟩ u) g us := by
  obtain ⟨v0, hv0⟩ := h.cel i hi' q hq
  have far : ∀ p, p ≠ i * 6 + q → (W.setCell ⟨g, i * 6 + q, none⟩ u).cell? ⟨g, p, none⟩ = W.cell? ⟨g, p, none⟩ := fun p hp => by simp [go_sem]
  refine ⟨h.low, h.top, by simpa [World.setCell] using h.lt, fun j hj p hp => ?_, fun j hj => (far _ (by omega)).trans (h.nxt j hj), fun p => by simpa [go_sem] using h.fro p, fun j hj => ?_, h.off, h.par⟩
  · by_cases e : j * 6 + p = i * 6 + q
    · rw [e]; exact ⟨u, by simp [go_sem, hv0]⟩
    · obtain ⟨v, hv⟩ := h.cel j hj p hp
      exact ⟨v, (far _ e).trans hv⟩
  · obtain ⟨ys, hy, hF⟩ := h.row j hj
    exact ⟨ys, hy, hF.keepB fun b hb => Below.heap_setCell _ _ _ _ (fun e => h.off j hj (by simp only at e; rw [← e]; exact (rowOwn_len hy).1 hb))⟩
theorem Between.set {lo hi : Nat} (W : World) {a : Addr} (h1 : lo ≤ a.block) (h2 : a.block < hi) (u : Value) : Between lo hi W (W.setCell a u) :=
  ⟨rfl, rfl, rfl, by simp [World.setCell], fun k _ hr => Below.heap_setCell W a u k (by omega)⟩
theorem MkN.turn {lo hi : Nat} {W W' : World} {g : Nat} {us : List LNode} (h : MkN lo hi W g us) {i : Nat} (hi' : i < us.length) {ys : List Int} (hy : ys.length = (el us i).2.2.2.2.2.2.2.length) (hF : kI.Fresh lo hi W' (el us i).2.2.2.2.2.1 (el us i).2.2.2.2.2.2.1 ys) (hO : OnlyAt (eff (el us i).2.2.2.2.2.1 (el us i).2.2.2.2.2.2.2.length) W W') : MkN lo hi W' g us := by
  have hg : W'.heap[g]? = W.heap[g]? := only_own hO (h.off i hi')
  refine ⟨h.low, h.top, by rw [hO.size]; exact h.lt, fun j hj q hq => ?_, fun j hj => (World.cell?_of_block (a := ⟨g, j * 6 + 5, none⟩) hg).trans (h.nxt j hj), fun q => (World.frozen?_of_block (a := ⟨g, q, none⟩) hg).trans (h.fro q), fun j hj => ?_, h.off, h.par⟩
  · obtain ⟨v, hv⟩ := h.cel j hj q hq
    exact ⟨v, (World.cell?_of_block (a := ⟨g, j * 6 + q, none⟩) hg).trans hv⟩
  · by_cases e : j = i
    · subst e; exact ⟨ys, hy, hF⟩
    · obtain ⟨zs, hz, hFz⟩ := h.row j hj
      refine ⟨zs, hz, hFz.keepB fun b hb => only_own hO fun hb2 => ?_⟩
      have hb1 : dNode.own (el us j) b := (rowOwn_len hz).1 hb
      rcases Nat.lt_or_gt_of_ne e with hl | hl
      · exact h.par j i hl hi' b hb1 hb2
      · exact h.par i j hl hj b hb2 hb1
set_option maxRecDepth 10000 in
set_option maxHeartbeats 4000000 in
theorem markNodeS_any (lo hi g c : Nat) (us : List LNode) (w : World) (hl : us.length ≤ 1048576) (ht : totNode us ≤ 1048576) (hF : DFr dNode lo hi w (some ⟨g, 0, none⟩) c us) :
    Calls Tryz.prog 18 #[.slice (some ⟨g, 0, none⟩) us.length c, .int .i64 1] w fun e w' => (∃ k : Int, e = .returned (.int .i64 k) ∧ 0 ≤ k) ∧ Between lo hi w w' := by
  rcases Nat.eq_zero_or_pos us.length with h0 | h0
  · obtain rfl : us = [] := List.length_eq_zero_iff.1 h0
    clear hF
    go_enter Tryz.func18, Tryz.ntmps18
    go_wp2
    go_loop [1, 5] (fun v i => v = .int .i64 1 ∧ i = .int .i64 0) (fun _ _ => 0)
    case atStart => exact ⟨rfl, rfl⟩
    case round =>
      obtain ⟨rfl, rfl⟩ := hrel
      go_wp2
      go_ret
      exact ⟨⟨1, rfl, by omega⟩, Between.refl _ _ _⟩
  · have HM := hid (MkN.of hF h0)
    clear hF
    go_enter Tryz.func18, Tryz.ntmps18
    go_wp2
    go_loopw [1, 5] (fun v j wr => ∃ (i : Nat) (k : Int), i ≤ us.length ∧ j = .int .i64 i ∧ v = .int .i64 k ∧ 0 ≤ k ∧ k ≤ 1 + 5 * (i : Int) + totNode (us.take i) ∧ Hid (MkN lo hi wr g us) ∧ Hid (Between lo hi w wr)) (fun _ j _ => us.length - (intOf j).toNat)
    case atStart => exact ⟨0, 1, Nat.zero_le _, rfl, rfl, by omega, by simp [totNode], HM, Between.refl _ _ _⟩
    case round =>
      clear HM
      obtain ⟨i, k, hi', rfl, rfl, hk, hkk, hM, hB⟩ := hrel
      by_cases hlt : i < us.length
      · have ht1 := totNode_take hlt
        have ht2 := totNode_el hlt
        have hii : (i : Int) < (us.length : Int) := by omega
        unfold sizeNode at ht1 ht2
        go_wp2_with fail
        refine (markText_any k wr hk (by omega)).mono ?_
        rintro e w1 ⟨⟨s, rfl⟩, hb1⟩
        have hM1 := hid (hM.out.later hb1)
        have hB1 := hid (hB.out.trans (Between.of_below hb1))
        clear hb1 hM hB
        obtain ⟨v0, c0⟩ := hM1.out.cel i hlt 0 (by omega)
        obtain ⟨v1, c1⟩ := hM1.out.cel i hlt 1 (by omega)
        obtain ⟨v2, c2⟩ := hM1.out.cel i hlt 2 (by omega)
        obtain ⟨v3, c3⟩ := hM1.out.cel i hlt 3 (by omega)
        obtain ⟨v4, c4⟩ := hM1.out.cel i hlt 4 (by omega)
        have c5 := hM1.out.nxt i hlt
        have f0 := hM1.out.fro (i * 6)
        have f1 := hM1.out.fro (i * 6 + 1)
        have f2 := hM1.out.fro (i * 6 + 2)
        have f3 := hM1.out.fro (i * 6 + 3)
        have f4 := hM1.out.fro (i * 6 + 4)
        rw [Nat.add_zero] at c0
        have hgs := hM1.out.lt
        have HM5 := hid (((((hM1.out.set hlt (show 0 < 5 by omega) (.string s)).set hlt (show 1 < 5 by omega) (.int .i64 (k + 1))).set hlt (show 2 < 5 by omega) (.int .i64 (k + 1 + 1))).set hlt (show 3 < 5 by omega) (.int .i64 (k + 1 + 1 + 1))).set hlt (show 4 < 5 by omega) (.int .i64 (k + 1 + 1 + 1 + 1)))
        have hlo := hM1.out.low
        have hhi := hM1.out.top
        have HB5 := hid (hB1.out.trans (((((Between.set w1 (a := ⟨g, i * 6 + 0, none⟩) hlo hhi (.string s)).trans (Between.set _ (a := ⟨g, i * 6 + 1, none⟩) hlo hhi (.int .i64 (k + 1)))).trans (Between.set _ (a := ⟨g, i * 6 + 2, none⟩) hlo hhi (.int .i64 (k + 1 + 1)))).trans (Between.set _ (a := ⟨g, i * 6 + 3, none⟩) hlo hhi (.int .i64 (k + 1 + 1 + 1)))).trans (Between.set _ (a := ⟨g, i * 6 + 4, none⟩) hlo hhi (.int .i64 (k + 1 + 1 + 1 + 1)))))
        rw [Nat.add_zero] at HM5 HB5
        obtain ⟨W5, hW5⟩ : ∃ W5, W5 = ((((w1.setCell ⟨g, i * 6, none⟩ (.string s)).setCell ⟨g, i * 6 + 1, none⟩ (.int .i64 (k + 1))).setCell ⟨g, i * 6 + 2, none⟩ (.int .i64 (k + 1 + 1))).setCell ⟨g, i * 6 + 3, none⟩ (.int .i64 (k + 1 + 1 + 1))).setCell ⟨g, i * 6 + 4, none⟩ (.int .i64 (k + 1 + 1 + 1 + 1)) := ⟨_, rfl⟩
        rw [← hW5] at HM5 HB5
        have HW5 := hid hW5
        clear hW5 hM1 hB1
        obtain ⟨ys, hy, hFy⟩ := HM5.out.row i hlt
        have HFY := hid hFy
        have HTU := hid (fun W' zs h1 h2 h3 => HM5.out.turn (W' := W') hlt (ys := zs) h1 h2 h3)
        obtain ⟨nxo, h1⟩ : ∃ nxo, nxo = (el us i).2.2.2.2.2.1 := ⟨_, rfl⟩
        obtain ⟨nxc, h2⟩ : ∃ nxc, nxc = (el us i).2.2.2.2.2.2.1 := ⟨_, rfl⟩
        obtain ⟨n, h3⟩ : ∃ n, n = (el us i).2.2.2.2.2.2.2.length := ⟨_, rfl⟩
        rw [← h1, ← h2] at HFY
        rw [← h1, ← h2, ← h3] at c5
        rw [← h1, ← h2, ← h3] at HTU
        rw [← h3] at ht1 ht2 hy
        clear h1 h2 h3 HM5 hFy
        go_wp2_with fail
        rw [← HW5.out]
        have hmk := markIntS_any lo hi nxo nxc ys (k + 1 + 1 + 1 + 1 + 1) W5 (by omega) (by omega) (by omega) HFY.out
        rw [hy] at hmk
        refine hmk.mono ?_
        rintro e w6 ⟨rfl, hF6, hO6⟩
        have hM6 := hid (HTU.out w6 _ (by rw [markI_len]) hF6 hO6)
        have hB6 := hid (HB5.out.trans (HFY.out.between (by rw [hy]; exact hO6)))
        clear hF6 hO6
        go_wp2
        go_roundw
        case rel => exact ⟨i + 1, k + 1 + 1 + 1 + 1 + 1 + n, by omega, by go_num, rfl, by omega, by rw [ht1]; push_cast; omega, hM6, hB6⟩
        case measure => simp [intOf]; omega
      · obtain rfl : i = us.length := by omega
        go_wp2
        go_ret
        exact ⟨⟨k, rfl, hk⟩, hB.out⟩
end
section
open Go.RowKit

set_option maxRecDepth 10000 in
set_option maxHeartbeats 4000000 in
theorem markNodeK_any (lo hi g c : Nat) (us : List LNode) (w : World) (hl : us.length ≤ 1048576) (ht : totNode us ≤ 1048576) (hF : DFr dNode lo hi w (some ⟨g, 0, none⟩) c us) :
    Calls Tryz.prog 18 #[.slice (some ⟨g, 0, none⟩) us.length c, .int .i64 1] w fun e w' => (∃ k : Int, e = .returned (.int .i64 k) ∧ 0 ≤ k ∧ k ≤ 1 + 5 * us.length + totNode us) ∧ Between lo hi w w' := by
  rcases Nat.eq_zero_or_pos us.length with h0 | h0
  · obtain rfl : us = [] := List.length_eq_zero_iff.1 h0
    clear hF
    go_enter Tryz.func18, Tryz.ntmps18
    go_wp2
    go_loop [1, 5] (fun v i => v = .int .i64 1 ∧ i = .int .i64 0) (fun _ _ => 0)
    case atStart => exact ⟨rfl, rfl⟩
    case round =>
      obtain ⟨rfl, rfl⟩ := hrel
      go_wp2
      go_ret
      exact ⟨⟨1, rfl, by omega, by simp [totNode]⟩, Between.refl _ _ _⟩
  · have HM := hid (MkN.of hF h0)
    clear hF
    go_enter Tryz.func18, Tryz.ntmps18
    go_wp2
    go_loopw [1, 5] (fun v j wr => ∃ (i : Nat) (k : Int), i ≤ us.length ∧ j = .int .i64 i ∧ v = .int .i64 k ∧ 0 ≤ k ∧ k ≤ 1 + 5 * (i : Int) + totNode (us.take i) ∧ Hid (MkN lo hi wr g us) ∧ Hid (Between lo hi w wr)) (fun _ j _ => us.length - (intOf j).toNat)
    case atStart => exact ⟨0, 1, Nat.zero_le _, rfl, rfl, by omega, by simp [totNode], HM, Between.refl _ _ _⟩
    case round =>
      clear HM
      obtain ⟨i, k, hi', rfl, rfl, hk, hkk, hM, hB⟩ := hrel
      by_cases hlt : i < us.length
      · have ht1 := totNode_take hlt
        have ht2 := totNode_el hlt
        have hii : (i : Int) < (us.length : Int) := by omega
        unfold sizeNode at ht1 ht2
        go_wp2_with fail
        refine (markText_any k wr hk (by omega)).mono ?_
        rintro e w1 ⟨⟨s, rfl⟩, hb1⟩
        have hM1 := hid (hM.out.later hb1)
        have hB1 := hid (hB.out.trans (Between.of_below hb1))
        clear hb1 hM hB
        obtain ⟨v0, c0⟩ := hM1.out.cel i hlt 0 (by omega)
        obtain ⟨v1, c1⟩ := hM1.out.cel i hlt 1 (by omega)
        obtain ⟨v2, c2⟩ := hM1.out.cel i hlt 2 (by omega)
        obtain ⟨v3, c3⟩ := hM1.out.cel i hlt 3 (by omega)
        obtain ⟨v4, c4⟩ := hM1.out.cel i hlt 4 (by omega)
        have c5 := hM1.out.nxt i hlt
        have f0 := hM1.out.fro (i * 6)
        have f1 := hM1.out.fro (i * 6 + 1)
        have f2 := hM1.out.fro (i * 6 + 2)
        have f3 := hM1.out.fro (i * 6 + 3)
        have f4 := hM1.out.fro (i * 6 + 4)
        rw [Nat.add_zero] at c0
        have hgs := hM1.out.lt
        have HM5 := hid (((((hM1.out.set hlt (show 0 < 5 by omega) (.string s)).set hlt (show 1 < 5 by omega) (.int .i64 (k + 1))).set hlt (show 2 < 5 by omega) (.int .i64 (k + 1 + 1))).set hlt (show 3 < 5 by omega) (.int .i64 (k + 1 + 1 + 1))).set hlt (show 4 < 5 by omega) (.int .i64 (k + 1 + 1 + 1 + 1)))
        have hlo := hM1.out.low
        have hhi := hM1.out.top
        have HB5 := hid (hB1.out.trans (((((Between.set w1 (a := ⟨g, i * 6 + 0, none⟩) hlo hhi (.string s)).trans (Between.set _ (a := ⟨g, i * 6 + 1, none⟩) hlo hhi (.int .i64 (k + 1)))).trans (Between.set _ (a := ⟨g, i * 6 + 2, none⟩) hlo hhi (.int .i64 (k + 1 + 1)))).trans (Between.set _ (a := ⟨g, i * 6 + 3, none⟩) hlo hhi (.int .i64 (k + 1 + 1 + 1)))).trans (Between.set _ (a := ⟨g, i * 6 + 4, none⟩) hlo hhi (.int .i64 (k + 1 + 1 + 1 + 1)))))
        rw [Nat.add_zero] at HM5 HB5
        obtain ⟨W5, hW5⟩ : ∃ W5, W5 = ((((w1.setCell ⟨g, i * 6, none⟩ (.string s)).setCell ⟨g, i * 6 + 1, none⟩ (.int .i64 (k + 1))).setCell ⟨g, i * 6 + 2, none⟩ (.int .i64 (k + 1 + 1))).setCell ⟨g, i * 6 + 3, none⟩ (.int .i64 (k + 1 + 1 + 1))).setCell ⟨g, i * 6 + 4, none⟩ (.int .i64 (k + 1 + 1 + 1 + 1)) := ⟨_, rfl⟩
        rw [← hW5] at HM5 HB5
        have HW5 := hid hW5
        clear hW5 hM1 hB1
        obtain ⟨ys, hy, hFy⟩ := HM5.out.row i hlt
        have HFY := hid hFy
        have HTU := hid (fun W' zs h1 h2 h3 => HM5.out.turn (W' := W') hlt (ys := zs) h1 h2 h3)
        obtain ⟨nxo, h1⟩ : ∃ nxo, nxo = (el us i).2.2.2.2.2.1 := ⟨_, rfl⟩
        obtain ⟨nxc, h2⟩ : ∃ nxc, nxc = (el us i).2.2.2.2.2.2.1 := ⟨_, rfl⟩
        obtain ⟨n, h3⟩ : ∃ n, n = (el us i).2.2.2.2.2.2.2.length := ⟨_, rfl⟩
        rw [← h1, ← h2] at HFY
        rw [← h1, ← h2, ← h3] at c5
        rw [← h1, ← h2, ← h3] at HTU
        rw [← h3] at ht1 ht2 hy
        clear h1 h2 h3 HM5 hFy
        go_wp2_with fail
        rw [← HW5.out]
        have hmk := markIntS_any lo hi nxo nxc ys (k + 1 + 1 + 1 + 1 + 1) W5 (by omega) (by omega) (by omega) HFY.out
        rw [hy] at hmk
        refine hmk.mono ?_
        rintro e w6 ⟨rfl, hF6, hO6⟩
        have hM6 := hid (HTU.out w6 _ (by rw [markI_len]) hF6 hO6)
        have hB6 := hid (HB5.out.trans (HFY.out.between (by rw [hy]; exact hO6)))
        clear hF6 hO6
        go_wp2
        go_roundw
        case rel => exact ⟨i + 1, k + 1 + 1 + 1 + 1 + 1 + n, by omega, by go_num, rfl, by omega, by rw [ht1]; push_cast; omega, hM6, hB6⟩
        case measure => simp [intOf]; omega
      · obtain rfl : i = us.length := by omega
        go_wp2
        go_ret
        rw [List.take_length] at hkk
        exact ⟨⟨k, rfl, hk, hkk⟩, hB.out⟩
end
section
open Go.RowKit

theorem tot_valP {us ts : List LNode} (hv : us.map valNode = ts.map valNode) : totNode us = totNode ts := by
  have h : ∀ l : List LNode, totNode l = ((l.map valNode).map fun p : PNode => p.1.size + p.2.2.2.2.2.length).sum := fun l => by rw [totNode, List.map_map]; rfl
  rw [h, h, hv]
theorem FrPipe.betw {lo hi lo' hi' : Nat} {W W' : World} {bxo : Option Addr} {bxc : Nat} {bx : List (List (Int × Int × Int))} {emo : Option Addr} {emc : Nat} {em : List (Int × Int × Int)} {fao : Option Addr} {fac : Nat} {fa : List (Int × Int × Int × Int)} {fuo : Option Addr} {fuc : Nat} {fu : List Int} (h : FrPipe lo hi W bxo bxc bx emo emc em fao fac fa fuo fuc fu) (hb : Between lo' hi' W W') (hd : hi ≤ lo' ∨ hi' ≤ lo) : FrPipe lo hi W' bxo bxc bx emo emc em fao fac fa fuo fuc fu :=
  ⟨h.1.between' hb hd, h.2.1.between' hb hd, h.2.2.1.between' hb hd, h.2.2.2.between' hb hd⟩
theorem FrPipe.keepI {lo hi : Nat} {W W' : World} {bxo : Option Addr} {bxc : Nat} {bx : List (List (Int × Int × Int))} {emo : Option Addr} {emc : Nat} {em : List (Int × Int × Int)} {fao : Option Addr} {fac : Nat} {fa : List (Int × Int × Int × Int)} {fuo : Option Addr} {fuc : Nat} {fu : List Int} (h : FrPipe lo hi W bxo bxc bx emo emc em fao fac fa fuo fuc fu) (hk : KeptBut kI.ty W W') (hu : kI.Fresh lo hi W' fuo fuc fu) : FrPipe lo hi W' bxo bxc bx emo emc em fao fac fa fuo fuc fu :=
  ⟨h.1.keepT hk (by decide) (by decide), h.2.1.keepT hk (by decide), h.2.2.1.keepT hk (by decide), hu⟩
theorem Bx.betw {lo hi p : Nat} {W W' : World} {vs : List Value} (h : Bx W p vs) (hb : Between lo hi W W') (hd : p < lo ∨ hi ≤ p) : Bx W' p vs := h.keep hb.size (hb.block p h.size hd)
/-- Small: what a pipe answers. -/
structure SmallP (s : PP) (cs : List Int) : Prop where
  b : s.bx.length ≤ 1048576 ∧ totT s.bx ≤ 1048576
  e : s.em.length ≤ 1048576
  f : s.fa.length ≤ 1048576
  u : s.fu.length ≤ 1048576
  c : cs.length ≤ 1048576
theorem ppR_small (gs : List PNode) (ms : List (Int × Int × Int)) : SmallP (ppR gs ms).1 (ppR gs ms).2.1 := by
  unfold ppR
  split
  · rename_i hok
    have h0 : codeG gs = 0 := by have := hok.1; simp [pipeB] at this; exact this.1
    have hE := (goodE_of h0).edg
    have hB := playP_bnd (srcP gs gs.length) hE ms (pp0_bnd gs.length) ms.length (Nat.le_refl _)
    have hl := playP_len gs (srcP gs gs.length) ms (pp0 gs.length) ms.length (Nat.le_refl _)
    rw [List.take_length] at hB hl
    have h1 := hB.len
    have h2 := hB.tot
    have h3 := hB.em
    have h4 := hB.fu
    have h5 := hE.many
    have h6 := hok.2
    exact ⟨⟨by dsimp only; omega, by dsimp only; omega⟩, by dsimp only; omega, by dsimp only; omega, by dsimp only; omega, by dsimp only; omega⟩
  · exact ⟨⟨by simp, by simp [totT]⟩, by simp, by simp, by simp, by simp⟩
theorem mkEnd_le {bx : List (List (Int × Int × Int))} {em : List (Int × Int × Int)} {fa : List (Int × Int × Int × Int)} {fu : List Int} (hb : totT bx ≤ 1048576) (he : em.length ≤ 1048576) (hf : fa.length ≤ 1048576) (hu : fu.length ≤ 1048576) : 1 ≤ mkEnd 1 bx em fa fu ∧ mkEnd 1 bx em fa fu ≤ 12000000 := by
  unfold mkEnd mkFu mkFa mkEm; omega
set_option maxRecDepth 100000 in
set_option maxHeartbeats 16000000 in
theorem lawPipe_any (ao : Option Addr) (cap : Nat) (ts : List LNode) (mo : Option Addr) (mc : Nat) (ms : List (Int × Int × Int)) (ea : Nat → Addr) (w : World) (hl : ts.length ≤ 9223372036854775807) (hle : ∀ a ∈ ts, a.1.size ≤ 9223372036854775807 ∧ (a.2.2.2.2.2).2.2.length ≤ 9223372036854775807) (hz : DIn dNode w.heap.size w ao ts) (hml : ms.length ≤ 9223372036854775807) (h64 : ∀ k, k < ms.length → (el ms k).1 ≤ 9223372036854775807) (hM : kMv.In w.heap.size w mo ms) (hE : Errs w ea) :
    Calls Tryz.prog 3 #[.slice ao ts.length cap, .slice mo ms.length mc] w fun e w' => e = .returned (.bool true) ∧ Below w.heap.size w w' := by
  have HZ := hid hz
  have HLE := hid hle
  have HE := hid hE
  have HM := hid hM
  have H64 := hid h64
  clear hz hle hE hM h64
  have hsm := ppR_small (ts.map valNode) ms
  obtain ⟨⟨s, cs, y⟩, hR⟩ : ∃ R, ppR (ts.map valNode) ms = R := ⟨_, rfl⟩
  rw [hR] at hsm
  have HSM : Hid (SmallP s cs) := hsm
  have hn2 : (y != y) = false := by simp
  have HR := hid hR
  clear hR hsm
  go_enter Tryz.func3, Tryz.ntmps3
  go_wp2_with fail
  refine (szNodeS_any ao cap ts 1048576 w (by omega) (by omega) hl HLE.out HZ.out.1).mono ?_
  rintro e w1 ⟨⟨r, rfl, hr1, hr⟩, hB1⟩
  rcases hr with hr | ⟨hr2, hr0⟩
  · go_wp2
    go_ret
    exact ⟨rfl, hB1⟩
  have hl2 : ts.length ≤ 1048576 := by omega
  have htt : totNode ts ≤ 1048576 := by omega
  have HTT := hid htt
  have hr' : decide (r < 0) = false := by simpa using hr0
  clear hr2 htt
  go_wp2_with fail
  refine (szMoveS_any mo ms.length mc r w1 hr0 hr1 hml).mono ?_
  rintro e w1b ⟨⟨r2, rfl, hq1, hq⟩, hw1b⟩
  rw [hw1b]
  clear hw1b w1b
  rcases hq with hq | ⟨hq2, hq0⟩
  · go_wp2
    go_ret
    exact ⟨rfl, hB1⟩
  have hml2 : ms.length ≤ 1048576 := by omega
  have hr2' : decide (r2 < 0) = false := by simpa using hq0
  clear hq2 hq0 hq1 hr0 hr1
  go_wp2_with fail
  refine (toNodeS_ts ao cap ts w1 hl2 HTT.out (HZ.out.later dNode_ok hB1)).mono ?_
  rintro e w2 ⟨g2, us2, rfl, hn2', hv2, hD2, hC2, hb2⟩
  have hB2 := hB1.trans (hb2.mono hB1.size)
  have D2 := hid (hD2.in dNode_ok)
  have V2 := hid (And.intro hn2' (And.intro hv2 hC2))
  clear hb2 hD2 hv2 hC2 hn2'
  go_wp2_with fail
  refine (toMoveS_any mo mc ms w2 hml2 (HM.out.later hB2)).mono ?_
  rintro e w3 ⟨rfl, hF3, hb3⟩
  have hB3 := hB2.trans (hb3.mono hB2.size)
  have D3 := hid (D2.out.later dNode_ok hb3)
  have M3 := hid hF3.in
  clear hb3 hF3 D2
  have hcon := specPipe_any (some ⟨g2, 0, none⟩) ts.length us2 (some ⟨w2.heap.size, 0, none⟩) ms.length ms w3 V2.out.2.2 D3.out M3.out H64.out
  rw [V2.out.1, V2.out.2.1, HR.out] at hcon
  clear D3 V2 M3
  try dsimp only at hcon
  go_wp2_with fail
  refine hcon.mono ?_
  rintro e w4' ⟨⟨so, sc, eo, ec, fo, fc, uo, uc, co, cc, rfl, hP4, hC4, _⟩, hb40⟩
  obtain ⟨w4, h4⟩ : ∃ q, q = w4'.alloc (.cells #[.int .i64 s.ti, .int .i64 s.it, .bool s.cl, .slice so s.bx.length sc, .slice eo s.em.length ec, .slice fo s.fa.length fc, .slice uo s.fu.length uc] 31) := ⟨_, rfl⟩
  have hb4a : Below w4'.heap.size w4' w4 := by rw [h4]; exact below1 _ _
  have KS4 : Hid (Bx w4 w4'.heap.size [.int .i64 s.ti, .int .i64 s.it, .bool s.cl, .slice so s.bx.length sc, .slice eo s.em.length ec, .slice fo s.fa.length fc, .slice uo s.fu.length uc]) := by rw [Hid, h4]; exact Bx.new (w := w4') [.int .i64 s.ti, .int .i64 s.it, .bool s.cl, .slice so s.bx.length sc, .slice eo s.em.length ec, .slice fo s.fa.length fc, .slice uo s.fu.length uc] 31 rfl
  have hz4 : w4'.heap.size < w4.heap.size := by rw [h4]; simp
  have H4 := hid h4
  have hb4 := hb40.trans (hb4a.mono hb40.size)
  have hB4 := hB3.trans (hb4.mono hB3.size)
  have S4 := hid (hP4.later hb4a)
  have C4 := hid (hC4.later hb4a)
  clear hb4 hb40 hb4a h4 hcon hP4 hC4
  try dsimp only at S4 C4
  try dsimp only
  go_wp2_with fail
  rw [← H4.out]
  refine (toNodeS_ts ao cap ts w4 hl2 HTT.out (HZ.out.later dNode_ok hB4)).mono ?_
  rintro e w5 ⟨g5, us5, rfl, hn5', hv5, hD5, hC5, hb5⟩
  have hB5 := hB4.trans (hb5.mono hB4.size)
  have KS5 := hid (KS4.out.later hb5)
  have S5 := hid (S4.out.later hb5)
  have C5 := hid (C4.out.later hb5)
  have h45 := hb5.size
  have X5 := hid hD5
  have V5 := hid (And.intro hn5' (And.intro hv5 hC5))
  clear hb5 hD5 hv5 hC5 hn5' S4 C4 KS4
  go_wp2_with fail
  refine (toMoveS_any mo mc ms w5 hml2 (HM.out.later hB5)).mono ?_
  rintro e w6 ⟨rfl, hF6, hb6⟩
  have hB6 := hB5.trans (hb6.mono hB5.size)
  have h56 := hb6.size
  have KS6 := hid (KS5.out.later hb6)
  have S6 := hid (S5.out.later hb6)
  have C6 := hid (C5.out.later hb6)
  have X6 := hid (X5.out.later dNode_ok hb6)
  have Y6 := hid hF6
  have hcon := implPipe_any (some ⟨g5, 0, none⟩) ts.length us5 ea (some ⟨w5.heap.size, 0, none⟩) ms.length ms w6 V5.out.2.2 (HE.out.later hB6) (X6.out.in dNode_ok) Y6.out.in H64.out
  rw [V5.out.1, V5.out.2.1, HR.out] at hcon
  clear hb6 hF6 X5 S5 C5 KS5
  try dsimp only at hcon
  go_wp2_with fail
  refine hcon.mono ?_
  rintro e w7' ⟨⟨so7, sc7, eo7, ec7, fo7, fc7, uo7, uc7, co7, cc7, rfl, hP7, hC7, hO7⟩, hb70⟩
  obtain ⟨w7, h7⟩ : ∃ q, q = w7'.alloc (.cells #[.int .i64 s.ti, .int .i64 s.it, .bool s.cl, .slice so7 s.bx.length sc7, .slice eo7 s.em.length ec7, .slice fo7 s.fa.length fc7, .slice uo7 s.fu.length uc7] 31) := ⟨_, rfl⟩
  have hb7a : Below w7'.heap.size w7' w7 := by rw [h7]; exact below1 _ _
  have KT7 : Hid (Bx w7 w7'.heap.size [.int .i64 s.ti, .int .i64 s.it, .bool s.cl, .slice so7 s.bx.length sc7, .slice eo7 s.em.length ec7, .slice fo7 s.fa.length fc7, .slice uo7 s.fu.length uc7]) := by rw [Hid, h7]; exact Bx.new (w := w7') [.int .i64 s.ti, .int .i64 s.it, .bool s.cl, .slice so7 s.bx.length sc7, .slice eo7 s.em.length ec7, .slice fo7 s.fa.length fc7, .slice uo7 s.fu.length uc7] 31 rfl
  have hz7 : w7'.heap.size < w7.heap.size := by rw [h7]; simp
  have H7 := hid h7
  have hb7 := hb70.trans (hb7a.mono hb70.size)
  have hB7 := hB6.trans (hb7.mono hB6.size)
  have h67 := hb70.size
  have KS7 := hid (KS6.out.later hb7)
  have KR7 := hid (KS6.out.later hb70)
  have S7 := hid (S6.out.later hb7)
  have C7 := hid (C6.out.later hb7)
  have X7 := hid (X6.out.later dNode_ok hb7)
  have Y7 := hid (Y6.out.later hb7)
  have T7 := hid (hP7.later hb7a)
  have D7 := hid (hC7.later hb7a)
  have O7 := hid hO7
  have N7 : Hid (w7'.heap.size ≤ w7.heap.size) := hb7a.size
  clear hb7 hb70 hb7a h7 hcon hP7 hC7 hO7 S6 C6 X6 Y6 KS6
  try dsimp only at T7 D7 O7
  try dsimp only
  have kz7 := KR7.out.size
  have p0 := KR7.out.c 0 rfl
  have p1 := KR7.out.c 1 rfl
  have p2 := KR7.out.c 2 rfl
  have p3 := KR7.out.c 3 rfl
  have p4 := KR7.out.c 4 rfl
  have p5 := KR7.out.c 5 rfl
  have p6 := KR7.out.c 6 rfl
  go_wp2_with fail
  rw [← H7.out]
  refine (eqPipe_same s.ti s.it s.cl so7 sc7 s.bx eo7 ec7 s.em fo7 fc7 s.fa uo7 uc7 s.fu so sc eo ec fo fc uo uc w7 HSM.out.b HSM.out.e HSM.out.f HSM.out.u T7.out.in S7.out.in).mono ?_
  rintro e w8 ⟨rfl, hb8⟩
  clear p0 p1 p2 p3 p4 p5 p6
  clear KR7
  have hB8 := hB7.trans (hb8.mono hB7.size)
  have KS8 := hid (KS7.out.later hb8)
  have KT8 := hid (KT7.out.later hb8)
  have S8 := hid (S7.out.later hb8)
  have C8 := hid (C7.out.later hb8)
  have X8 := hid (X7.out.later dNode_ok hb8)
  have Y8 := hid (Y7.out.later hb8)
  have T8 := hid (T7.out.later hb8)
  have D8 := hid (D7.out.later hb8)
  have N8 := hid (Nat.le_trans N7.out hb8.size)
  clear KS7 KT7 S7 C7 X7 Y7 T7 D7 N7
  clear hb8
  go_wp2_with fail
  refine (eqIntS_same co7 co cc7 cc cs w8 HSM.out.c D8.out.in C8.out.in).mono ?_
  rintro e w9 ⟨rfl, hb9⟩
  have hB9 := hB8.trans (hb9.mono hB8.size)
  have KS9 := hid (KS8.out.later hb9)
  have KT9 := hid (KT8.out.later hb9)
  have S9 := hid (S8.out.later hb9)
  have C9 := hid (C8.out.later hb9)
  have X9 := hid (X8.out.later dNode_ok hb9)
  have Y9 := hid (Y8.out.later hb9)
  have T9 := hid (T8.out.later hb9)
  have D9 := hid (D8.out.later hb9)
  have N9 := hid (Nat.le_trans N8.out hb9.size)
  clear KS8 KT8 S8 C8 X8 Y8 T8 D8 N8
  clear hb9
  go_wp2_with fail
  refine (toNodeS_ts ao cap ts w9 hl2 HTT.out (HZ.out.later dNode_ok hB9)).mono ?_
  rintro e w10 ⟨g10, us10, rfl, hn10, hv10, hD10, hC10, hb10⟩
  have hB10 := hB9.trans (hb10.mono hB9.size)
  have KS10 := hid (KS9.out.later hb10)
  have KT10 := hid (KT9.out.later hb10)
  have S10 := hid (S9.out.later hb10)
  have C10 := hid (C9.out.later hb10)
  have X10 := hid (X9.out.later dNode_ok hb10)
  have Y10 := hid (Y9.out.later hb10)
  have T10 := hid (T9.out.later hb10)
  have D10 := hid (D9.out.later hb10)
  have N10 := hid (Nat.le_trans N9.out hb10.size)
  clear KS9 KT9 S9 C9 X9 Y9 T9 D9 N9
  have Q10 := hid (hD10.in dNode_ok)
  have HV10 := hid hv10
  clear hb10 hD10 hv10 hC10 hn10
  go_wp2_with fail
  refine (eqNodeS_ts g5 g10 us5 us10 ts w10 hl2 V5.out.2.1 HV10.out V5.out.2.2 (X10.out.in dNode_ok) Q10.out).mono ?_
  rintro e w11 ⟨rfl, hb11⟩
  have hB11 := hB10.trans (hb11.mono hB10.size)
  have KS11 := hid (KS10.out.later hb11)
  have KT11 := hid (KT10.out.later hb11)
  have S11 := hid (S10.out.later hb11)
  have C11 := hid (C10.out.later hb11)
  have X11 := hid (X10.out.later dNode_ok hb11)
  have Y11 := hid (Y10.out.later hb11)
  have T11 := hid (T10.out.later hb11)
  have D11 := hid (D10.out.later hb11)
  have N11 := hid (Nat.le_trans N10.out hb11.size)
  clear KS10 KT10 S10 C10 X10 Y10 T10 D10 N10
  clear hb11 Q10 HV10
  go_wp2_with fail
  refine (toMoveS_any mo mc ms w11 hml2 (HM.out.later hB11)).mono ?_
  rintro e w12 ⟨rfl, hF12, hb12⟩
  have hB12 := hB11.trans (hb12.mono hB11.size)
  have KS12 := hid (KS11.out.later hb12)
  have KT12 := hid (KT11.out.later hb12)
  have S12 := hid (S11.out.later hb12)
  have C12 := hid (C11.out.later hb12)
  have X12 := hid (X11.out.later dNode_ok hb12)
  have Y12 := hid (Y11.out.later hb12)
  have T12 := hid (T11.out.later hb12)
  have D12 := hid (D11.out.later hb12)
  have N12 := hid (Nat.le_trans N11.out hb12.size)
  clear KS11 KT11 S11 C11 X11 Y11 T11 D11 N11
  have M12 := hid hF12.in
  clear hb12 hF12
  go_wp2_with fail
  refine (eqMoveS_same (some ⟨w5.heap.size, 0, none⟩) (some ⟨w11.heap.size, 0, none⟩) ms.length ms.length ms w12 hml2 Y12.out.in M12.out).mono ?_
  rintro e w13 ⟨rfl, hb13⟩
  have hB13 := hB12.trans (hb13.mono hB12.size)
  have KS13 := hid (KS12.out.later hb13)
  have KT13 := hid (KT12.out.later hb13)
  have S13 := hid (S12.out.later hb13)
  have C13 := hid (C12.out.later hb13)
  have X13 := hid (X12.out.later dNode_ok hb13)
  have Y13 := hid (Y12.out.later hb13)
  have T13 := hid (T12.out.later hb13)
  have D13 := hid (D12.out.later hb13)
  have N13 := hid (Nat.le_trans N12.out hb13.size)
  clear KS12 KT12 S12 C12 X12 Y12 T12 D12 N12
  clear hb13 M12
  have hmk := markNodeK_any w4.heap.size w5.heap.size g5 ts.length us5 w13 (by rw [V5.out.1]; exact hl2) (by rw [tot_valP V5.out.2.1]; exact HTT.out) X13.out
  rw [V5.out.1, tot_valP V5.out.2.1] at hmk
  go_wp2_with fail
  refine hmk.mono ?_
  rintro e w14 ⟨⟨kk, rfl, hkk, hkm⟩, hb14⟩
  have hlow : w4.heap.size ≤ w13.heap.size := by have := N13.out; omega
  have hB14 := hB13.trans ((hb14.below hlow).mono (by have := hB4.size; omega))
  have KS14 := hid (KS13.out.betw hb14 (by omega))
  have KT14 := hid (KT13.out.betw hb14 (by omega))
  have S14 := hid (S13.out.betw hb14 (by omega))
  have C14 := hid (C13.out.between' hb14 (by omega))
  have Y14 := hid (Y13.out.between' hb14 (by omega))
  have T14 := hid (T13.out.betw hb14 (by omega))
  have D14 := hid (D13.out.between' hb14 (by omega))
  have N14 := hid (Nat.le_trans N13.out hb14.size)
  have hkm2 : kk ≤ 8000000 := by have := HTT.out; omega
  clear KS13 KT13 S13 C13 X13 Y13 T13 D13 N13 hb14 hlow hmk hkm
  go_wp2_with fail
  refine (markMoveS_any w5.heap.size w6.heap.size (some ⟨w5.heap.size, 0, none⟩) ms.length ms kk w14 (by omega) hkk (by omega) Y14.out).mono ?_
  rintro e w15 ⟨rfl, _, hO15⟩
  have hb15 : Between w5.heap.size w6.heap.size w14 w15 := Y14.out.between hO15
  have hlow : w5.heap.size ≤ w14.heap.size := by have := N14.out; omega
  have hB15 := hB14.trans ((hb15.below hlow).mono (by have := hB5.size; omega))
  have KS15 := hid (KS14.out.betw hb15 (by omega))
  have KT15 := hid (KT14.out.betw hb15 (by omega))
  have S15 := hid (S14.out.betw hb15 (by omega))
  have C15 := hid (C14.out.between' hb15 (by omega))
  have T15 := hid (T14.out.betw hb15 (by omega))
  have D15 := hid (D14.out.between' hb15 (by omega))
  have N15 := hid (Nat.le_trans N14.out hb15.size)
  clear KS14 KT14 S14 C14 Y14 T14 D14 N14 hb15 hO15 hlow
  have hk0 : decide (kk + 3 * (ms.length : Int) < 0) = false := by simp; omega
  have p0 := KS15.out.c 0 rfl
  have p1 := KS15.out.c 1 rfl
  have p2 := KS15.out.c 2 rfl
  have p3 := KS15.out.c 3 rfl
  have p4 := KS15.out.c 4 rfl
  have p5 := KS15.out.c 5 rfl
  have p6 := KS15.out.c 6 rfl
  have t0 := KT15.out.c 0 rfl
  have t1 := KT15.out.c 1 rfl
  have t2 := KT15.out.c 2 rfl
  have t3 := KT15.out.c 3 rfl
  have t4 := KT15.out.c 4 rfl
  have t5 := KT15.out.c 5 rfl
  have t6 := KT15.out.c 6 rfl
  go_wp2_with fail
  refine (eqPipe_same s.ti s.it s.cl so7 sc7 s.bx eo7 ec7 s.em fo7 fc7 s.fa uo7 uc7 s.fu so sc eo ec fo fc uo uc w15 HSM.out.b HSM.out.e HSM.out.f HSM.out.u T15.out.in S15.out.in).mono ?_
  rintro e w16 ⟨rfl, hb16⟩
  clear p0 p1 p2 p3 p4 p5 p6
  clear t0 t1 t2 t3 t4 t5 t6
  have hB16 := hB15.trans (hb16.mono hB15.size)
  have KS16 := hid (KS15.out.later hb16)
  have KT16 := hid (KT15.out.later hb16)
  have S16 := hid (S15.out.later hb16)
  have C16 := hid (C15.out.later hb16)
  have T16 := hid (T15.out.later hb16)
  have D16 := hid (D15.out.later hb16)
  have N16 := hid (Nat.le_trans N15.out hb16.size)
  clear KS15 KT15 S15 C15 T15 D15 N15
  clear hb16
  go_wp2_with fail
  refine (eqIntS_same co7 co cc7 cc cs w16 HSM.out.c D16.out.in C16.out.in).mono ?_
  rintro e w17 ⟨rfl, hb17⟩
  have hB17 := hB16.trans (hb17.mono hB16.size)
  have KS17 := hid (KS16.out.later hb17)
  have KT17 := hid (KT16.out.later hb17)
  have S17 := hid (S16.out.later hb17)
  have C17 := hid (C16.out.later hb17)
  have T17 := hid (T16.out.later hb17)
  have D17 := hid (D16.out.later hb17)
  have N17 := hid (Nat.le_trans N16.out hb17.size)
  clear KS16 KT16 S16 C16 T16 D16 N16
  clear hb17 hk0
  have t0 := KT17.out.c 0 rfl
  have t1 := KT17.out.c 1 rfl
  have t2 := KT17.out.c 2 rfl
  have t3 := KT17.out.c 3 rfl
  have t4 := KT17.out.c 4 rfl
  have t5 := KT17.out.c 5 rfl
  have t6 := KT17.out.c 6 rfl
  go_wp2_with fail
  refine (markPipe_any w6.heap.size w7'.heap.size s.ti s.it s.cl so7 sc7 s.bx eo7 ec7 s.em fo7 fc7 s.fa uo7 uc7 s.fu co7 cc7 cs 1 w17 HSM.out.b HSM.out.e HSM.out.f HSM.out.u (by omega) (by omega) N17.out T17.out D17.out O7.out).mono ?_
  rintro e w18 ⟨rfl, hT18, hD18, wx, hbx, hby⟩
  clear t0 t1 t2 t3 t4 t5 t6
  have hlow : w6.heap.size ≤ wx.heap.size := by have := N17.out; have := hbx.size; omega
  have hB18 := hB17.trans ((hbx.mono hB17.size).trans ((hby.below hlow).mono (by have := hB6.size; omega)))
  have KS18 := hid ((KS17.out.later hbx).betw hby (by omega))
  have KT18 := hid ((KT17.out.later hbx).betw hby (by omega))
  have S18 := hid ((S17.out.later hbx).betw hby (by omega))
  have C18 := hid ((C17.out.later hbx).between' hby (by omega))
  have T18 := hid hT18
  have D18 := hid hD18
  have N18 := hid (Nat.le_trans N17.out (Nat.le_trans hbx.size hby.size))
  clear KS17 KT17 S17 C17 T17 D17 N17 hT18 hD18 hbx hby hlow
  have hme := mkEnd_le (fu := s.fu) HSM.out.b.2 HSM.out.e HSM.out.f HSM.out.u
  obtain ⟨mm, hmm⟩ : ∃ mm, mm = mkEnd 1 s.bx s.em s.fa s.fu := ⟨_, rfl⟩
  have HMM := hid hmm
  rw [← hmm] at hme ⊢
  clear hmm
  go_wp2_with fail
  refine (markIntS_any w6.heap.size w7'.heap.size co7 cc7 cs mm w18 (by have := HSM.out.c; omega) (by omega) (by omega) D18.out).mono ?_
  rintro e w19 ⟨rfl, hD19, hOz⟩
  have hb19 : Between w6.heap.size w7'.heap.size w18 w19 := D18.out.between hOz
  have hlow : w6.heap.size ≤ w18.heap.size := by have := N18.out; omega
  have hB19 := hB18.trans ((hb19.below hlow).mono (by have := hB6.size; omega))
  have KS19 := hid (KS18.out.betw hb19 (by omega))
  have KT19 := hid (KT18.out.betw hb19 (by omega))
  have S19 := hid (S18.out.betw hb19 (by omega))
  have C19 := hid (C18.out.between' hb19 (by omega))
  have T19 := hid (T18.out.keepI (D18.out.keptBut hOz) (T18.out.2.2.2.off (by rw [markI_len]; exact O7.out) hOz))
  have D19 := hid hD19
  have N19 := hid (Nat.le_trans N18.out hb19.size)
  clear KS18 KT18 S18 C18 T18 D18 N18 hD19 hb19 hOz hlow
  have hmq : (mm + (cs.length : Int) != mm + (cs.length : Int)) = false := by simp
  have t0 := KT19.out.c 0 rfl
  have t1 := KT19.out.c 1 rfl
  have t2 := KT19.out.c 2 rfl
  have t3 := KT19.out.c 3 rfl
  have t4 := KT19.out.c 4 rfl
  have t5 := KT19.out.c 5 rfl
  have t6 := KT19.out.c 6 rfl
  go_wp2_with fail
  refine (heldPipe_any s.ti s.it s.cl so7 sc7 s.bx eo7 ec7 s.em fo7 fc7 s.fa uo7 uc7 s.fu 1 w19 HSM.out.b HSM.out.e HSM.out.f HSM.out.u (by omega) (by omega) T19.out.in).mono ?_
  rintro e w20 ⟨rfl, hb20⟩
  clear t0 t1 t2 t3 t4 t5 t6
  rw [← HMM.out]
  have hB20 := hB19.trans (hb20.mono hB19.size)
  have KS20 := hid (KS19.out.later hb20)
  have KT20 := hid (KT19.out.later hb20)
  have S20 := hid (S19.out.later hb20)
  have C20 := hid (C19.out.later hb20)
  have T20 := hid (T19.out.later hb20)
  have D20 := hid (D19.out.later hb20)
  have N20 := hid (Nat.le_trans N19.out hb20.size)
  clear KS19 KT19 S19 C19 T19 D19 N19
  clear hb20
  have hm0 : decide (mm < 0) = false := by simp; omega
  go_wp2_with fail
  refine (heldIntS_any co7 cc7 cs.length mm w20 (by have := HSM.out.c; omega) (by omega) (by omega) D20.out.in).mono ?_
  rintro e w21 ⟨rfl, hw21⟩
  rw [hw21]
  clear hw21 w21
  have hm1 : decide (mm + (cs.length : Int) < 0) = false := by simp; omega
  go_wp2_with fail
  refine (toNodeS_ts ao cap ts w20 hl2 HTT.out (HZ.out.later dNode_ok hB20)).mono ?_
  rintro e w22 ⟨g22, us22, rfl, hn22, hv22, hD22, hC22, hb22⟩
  have hB22 := hB20.trans (hb22.mono hB20.size)
  have KS22 := hid (KS20.out.later hb22)
  have KT22 := hid (KT20.out.later hb22)
  have S22 := hid (S20.out.later hb22)
  have C22 := hid (C20.out.later hb22)
  have T22 := hid (T20.out.later hb22)
  have D22 := hid (D20.out.later hb22)
  have N22 := hid (Nat.le_trans N20.out hb22.size)
  clear KS20 KT20 S20 C20 T20 D20 N20
  have Q22 := hid (hD22.in dNode_ok)
  have V22 := hid (And.intro hn22 (And.intro hv22 hC22))
  clear hb22 hD22 hv22 hC22 hn22
  go_wp2_with fail
  refine (toMoveS_any mo mc ms w22 hml2 (HM.out.later hB22)).mono ?_
  rintro e w23 ⟨rfl, hF23, hb23⟩
  have hB23 := hB22.trans (hb23.mono hB22.size)
  have KS23 := hid (KS22.out.later hb23)
  have KT23 := hid (KT22.out.later hb23)
  have S23 := hid (S22.out.later hb23)
  have C23 := hid (C22.out.later hb23)
  have T23 := hid (T22.out.later hb23)
  have D23 := hid (D22.out.later hb23)
  have N23 := hid (Nat.le_trans N22.out hb23.size)
  clear KS22 KT22 S22 C22 T22 D22 N22
  have Q23 := hid (Q22.out.later dNode_ok hb23)
  have M23 := hid hF23.in
  have hcon := implPipe_any (some ⟨g22, 0, none⟩) ts.length us22 ea (some ⟨w22.heap.size, 0, none⟩) ms.length ms w23 V22.out.2.2 (HE.out.later hB23) Q23.out M23.out H64.out
  rw [V22.out.1, V22.out.2.1, HR.out] at hcon
  clear hb23 hF23 Q22
  try dsimp only at hcon
  go_wp2_with fail
  refine hcon.mono ?_
  rintro e w24' ⟨⟨so9, sc9, eo9, ec9, fo9, fc9, uo9, uc9, co9, cc9, rfl, hP9, hC9, _⟩, hb240⟩
  obtain ⟨w24, h24⟩ : ∃ q, q = w24'.alloc (.cells #[.int .i64 s.ti, .int .i64 s.it, .bool s.cl, .slice so9 s.bx.length sc9, .slice eo9 s.em.length ec9, .slice fo9 s.fa.length fc9, .slice uo9 s.fu.length uc9] 31) := ⟨_, rfl⟩
  have hb24a : Below w24'.heap.size w24' w24 := by rw [h24]; exact below1 _ _
  have KU24 : Hid (Bx w24 w24'.heap.size [.int .i64 s.ti, .int .i64 s.it, .bool s.cl, .slice so9 s.bx.length sc9, .slice eo9 s.em.length ec9, .slice fo9 s.fa.length fc9, .slice uo9 s.fu.length uc9]) := by rw [Hid, h24]; exact Bx.new (w := w24') [.int .i64 s.ti, .int .i64 s.it, .bool s.cl, .slice so9 s.bx.length sc9, .slice eo9 s.em.length ec9, .slice fo9 s.fa.length fc9, .slice uo9 s.fu.length uc9] 31 rfl
  have hz24 : w24'.heap.size < w24.heap.size := by rw [h24]; simp
  have H24 := hid h24
  have hb24 := hb240.trans (hb24a.mono hb240.size)
  have KR24 := hid (KS23.out.later hb240)
  have hB24 := hB23.trans (hb24.mono hB23.size)
  have KS24 := hid (KS23.out.later hb24)
  have KT24 := hid (KT23.out.later hb24)
  have S24 := hid (S23.out.later hb24)
  have C24 := hid (C23.out.later hb24)
  have T24 := hid (T23.out.later hb24)
  have D24 := hid (D23.out.later hb24)
  have N24 := hid (Nat.le_trans N23.out hb24.size)
  clear KS23 KT23 S23 C23 T23 D23 N23
  have U24 := hid (hP9.later hb24a)
  have Z24 := hid (hC9.later hb24a)
  clear hb24 hb240 hb24a h24 hcon hP9 hC9 Q23 M23
  try dsimp only at U24 Z24
  try dsimp only
  have kz24 := KR24.out.size
  have p0 := KR24.out.c 0 rfl
  have p1 := KR24.out.c 1 rfl
  have p2 := KR24.out.c 2 rfl
  have p3 := KR24.out.c 3 rfl
  have p4 := KR24.out.c 4 rfl
  have p5 := KR24.out.c 5 rfl
  have p6 := KR24.out.c 6 rfl
  go_wp2_with fail
  rw [← H24.out]
  refine (eqPipe_same s.ti s.it s.cl so9 sc9 s.bx eo9 ec9 s.em fo9 fc9 s.fa uo9 uc9 s.fu so sc eo ec fo fc uo uc w24 HSM.out.b HSM.out.e HSM.out.f HSM.out.u U24.out.in S24.out.in).mono ?_
  rintro e w25 ⟨rfl, hb25⟩
  clear p0 p1 p2 p3 p4 p5 p6
  clear KR24
  have hB25 := hB24.trans (hb25.mono hB24.size)
  have KT25 := hid (KT24.out.later hb25)
  have C25 := hid (C24.out.later hb25)
  have T25 := hid (T24.out.later hb25)
  have D25 := hid (D24.out.later hb25)
  have Z25 := hid (Z24.out.later hb25)
  have N25 := hid (Nat.le_trans N24.out hb25.size)
  clear KT24 C24 T24 D24 Z24 N24
  clear hb25 S24 U24 KS24 KU24
  go_wp2_with fail
  refine (eqIntS_same co9 co cc9 cc cs w25 HSM.out.c Z25.out.in C25.out.in).mono ?_
  rintro e w26 ⟨rfl, hb26⟩
  have hB26 := hB25.trans (hb26.mono hB25.size)
  have KT26 := hid (KT25.out.later hb26)
  have T26 := hid (T25.out.later hb26)
  have D26 := hid (D25.out.later hb26)
  have N26 := hid (Nat.le_trans N25.out hb26.size)
  clear KT25 T25 D25 N25
  clear hb26 C25 Z25
  have t0 := KT26.out.c 0 rfl
  have t1 := KT26.out.c 1 rfl
  have t2 := KT26.out.c 2 rfl
  have t3 := KT26.out.c 3 rfl
  have t4 := KT26.out.c 4 rfl
  have t5 := KT26.out.c 5 rfl
  have t6 := KT26.out.c 6 rfl
  go_wp2_with fail
  refine (heldPipe_any s.ti s.it s.cl so7 sc7 s.bx eo7 ec7 s.em fo7 fc7 s.fa uo7 uc7 s.fu 1 w26 HSM.out.b HSM.out.e HSM.out.f HSM.out.u (by omega) (by omega) T26.out.in).mono ?_
  rintro e w27 ⟨rfl, hb27⟩
  clear t0 t1 t2 t3 t4 t5 t6
  rw [← HMM.out]
  have hB27 := hB26.trans (hb27.mono hB26.size)
  have D27 := hid (D26.out.later hb27)
  have N27 := hid (Nat.le_trans N26.out hb27.size)
  clear D26 N26
  clear hb27
  go_wp2_with fail
  refine (heldIntS_any co7 cc7 cs.length mm w27 (by have := HSM.out.c; omega) (by omega) (by omega) D27.out.in).mono ?_
  rintro e w28 ⟨rfl, hw28⟩
  rw [hw28]
  clear hw28 w28
  go_wp2
  go_ret
  exact ⟨rfl, hB27⟩
end
end Go.Proofs.YtoeonbdoopboiaaGreatDoor
