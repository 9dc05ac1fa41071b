/- Marks in rows of nodes. No conditions but those written. Marks of a graph, and how far they count. No conditions but those written. The walk of the law of AccountOf: it returns true. No conditions but those written. -/
import Derived.Test.YtoeonbdoopboiaaGreatDoorPEsMvk
import Derived.Test.YtoeonbdoopboiaaGreatDoorPDpFx
import Derived.Laws.BytesString
import Derived.Test.YtoeonbdoopboiaaGreatDoorPCvbHi
import Derived.Test.YtoeonbdoopboiaaGreatDoorPSpiMvr
namespace Go.Proofs.YtoeonbdoopboiaaGreatDoor
section
open Go.RowKit

theorem conv_one (W : World) (x : Int) : ∃ s, s.size = 1 ∧ (convert 123 9 (.slice (some ⟨W.heap.size, 0, none⟩) 1 1)).run Tryz.prog (W.alloc (.cells #[.int .u8 x] 5)) = .ok (.string s) (W.alloc (.cells #[.int .u8 x] 5)) := by
  refine ⟨[x].foldl (fun r n => r.push (UInt8.ofNat n.toNat)) ByteArray.empty, rfl, ?_⟩
  rw [run_convert_bytes_string _ _ _ 5 _ _ _ Tryz.underlying123 Tryz.underlying5 Tryz.underlying9]
  exact run_bytesToString _ _ _ _ [x] (by simp [loadCells, go_sem])
set_option maxRecDepth 10000 in
set_option maxHeartbeats 2000000 in
theorem markText_any (k0 : Int) (w : World) (hk0 : 0 ≤ k0) (hk1 : k0 ≤ 1000000000) :
    Calls Tryz.prog 46 #[.int .i64 k0] w fun e w' => (∃ s, e = .returned (.string s)) ∧ Below w.heap.size w w' := by
  by_cases h0 : k0 ≤ 0
  · go_enter Tryz.func46, Tryz.ntmps46
    go_wp2
    go_ret
    exact ⟨⟨_, rfl⟩, Below.refl _ _⟩
  · have h0' : decide (k0 ≤ 0) = false := by simpa using h0
    go_enter Tryz.func46, Tryz.ntmps46
    go_wp2
    go_loopw [0, 3] (fun v u wr => ∃ (k : Int) (s : ByteArray), v = .int .i64 k ∧ u = .string s ∧ 0 ≤ k ∧ k ≤ 1000000000 ∧ s.size + k.toNat ≤ 1000000000 ∧ Below w.heap.size w wr) (fun v _ _ => (intOf v).toNat)
    case atStart => exact ⟨k0, ⟨#[]⟩, rfl, rfl, hk0, hk1, by have : (⟨#[]⟩ : ByteArray).size = 0 := rfl; omega, Below.refl _ _⟩
    case round =>
      obtain ⟨k, s, rfl, rfl, hk, hkk, hs, hB⟩ := hrel
      by_cases hp : 0 < k
      · have hp' : decide (0 < k) = true := by simpa using hp
        obtain ⟨s1, hs1, hcv⟩ := conv_one wr (48 + k % 10)
        have hB2 : Below w.heap.size w (wr.alloc (.cells #[.int .u8 (48 + k % 10)] 5)) := Below.allocS hB _
        have hq0 : 0 ≤ k / 10 := by omega
        have hq1 : k / 10 < k := by omega
        go_wp2
        go_roundw
        case rel => exact ⟨k / 10, _, rfl, rfl, hq0, by omega, by rw [ByteArray.size_append]; omega, hB2⟩
        case measure => simp [intOf]; omega
      · obtain rfl : k = 0 := by omega
        clear hp
        go_wp2
        go_ret
        exact ⟨⟨_, rfl⟩, hB⟩
/-- Nodes that are being marked: what is in them counts no more, but where they lie. -/
structure MkN (lo hi : Nat) (W : World) (g : Nat) (us : List LNode) : Prop where
  low : lo ≤ g
  top : g < hi
  lt : g < W.heap.size
  cel : ∀ i, i < us.length → ∀ q, q < 5 → ∃ v, W.cell? ⟨g, i * 6 + q, none⟩ = some v
  nxt : ∀ i, i < us.length → W.cell? ⟨g, i * 6 + 5, none⟩ = some (.slice (el us i).2.2.2.2.2.1 (el us i).2.2.2.2.2.2.2.length (el us i).2.2.2.2.2.2.1)
  fro : ∀ q, W.frozen? ⟨g, q, none⟩ = false
  row : ∀ i, i < us.length → ∃ ys : List Int, ys.length = (el us i).2.2.2.2.2.2.2.length ∧ kI.Fresh lo hi W (el us i).2.2.2.2.2.1 (el us i).2.2.2.2.2.2.1 ys
  off : ∀ i, i < us.length → ¬ rowOwn (el us i).2.2.2.2.2.1 (el us i).2.2.2.2.2.2.2 g
  par : Parted dNode us
theorem rowOwn_len {α β : Type} {o : Option Addr} {xs : List α} {ys : List β} (h : xs.length = ys.length) {b : Nat} : rowOwn o xs b ↔ rowOwn o ys b := by unfold rowOwn; rw [h]
theorem MkN.of {lo hi : Nat} {W : World} {g c : Nat} {us : List LNode} (h : DFr dNode lo hi W (some ⟨g, 0, none⟩) c us) (h0 : 0 < us.length) : MkN lo hi W g us := by
  have h1 : hNode.Fresh lo hi W (some ⟨g, 0, none⟩) c us := h.1
  obtain ⟨g2, e2, hg1, hg2, hg3, ho⟩ := h1.at h0
  simp at e2; subst e2
  have hcs : ∀ i, i < us.length → W.cell? ⟨g, i * 6, none⟩ = some (.string (el us i).1) ∧ W.cell? ⟨g, i * 6 + 1, none⟩ = some (.int .i64 (el us i).2.1) ∧ W.cell? ⟨g, i * 6 + 2, none⟩ = some (.int .i64 (el us i).2.2.1) ∧ W.cell? ⟨g, i * 6 + 3, none⟩ = some (.int .i64 (el us i).2.2.2.1) ∧ W.cell? ⟨g, i * 6 + 4, none⟩ = some (.int .i64 (el us i).2.2.2.2.1) ∧ W.cell? ⟨g, i * 6 + 5, none⟩ = some (.slice (el us i).2.2.2.2.2.1 (el us i).2.2.2.2.2.2.2.length (el us i).2.2.2.2.2.2.1) := fun i hi' => by
    obtain ⟨b0, off, eb, _, hc⟩ := hNode_at h1.in hi'
    obtain ⟨rfl, rfl⟩ : b0 = g ∧ off = 0 := by simp at eb; exact ⟨eb.1.symm, eb.2.symm⟩
    have hc' := hc i hi'
    simp only [Nat.zero_add] at hc'
    exact hc'
  refine ⟨hg1, hg2, hg3, fun i hi' q hq => ?_, fun i hi' => (hcs i hi').2.2.2.2.2, fun q => ho.frozenAt q, fun i hi' => ⟨_, rfl, h.2.1 i hi'⟩, fun i hi' hr => h.head dNode_ok hi' hr ⟨h0, rfl⟩, h.2.2⟩
  have h6 := hcs i hi'
  rcases (show q = 0 ∨ q = 1 ∨ q = 2 ∨ q = 3 ∨ q = 4 from by omega) with rfl | rfl | rfl | rfl | rfl
  · exact ⟨_, h6.1⟩
  · exact ⟨_, h6.2.1⟩
  · exact ⟨_, h6.2.2.1⟩
  · exact ⟨_, h6.2.2.2.1⟩
  · exact ⟨_, h6.2.2.2.2.1⟩
theorem MkN.later {lo hi : Nat} {W W' : World} {g : Nat} {us : List LNode} (h : MkN lo hi W g us) (hb : Below W.heap.size W W') : MkN lo hi W' g us :=
  ⟨h.low, h.top, Nat.lt_of_lt_of_le h.lt hb.size, fun i hi' q hq => by obtain ⟨v, hv⟩ := h.cel i hi' q hq; exact ⟨v, (hb.cell (p := ⟨g, i * 6 + q, none⟩) h.lt).trans hv⟩, fun i hi' => (hb.cell (p := ⟨g, i * 6 + 5, none⟩) h.lt).trans (h.nxt i hi'), fun q => (hb.frozen (p := ⟨g, q, none⟩) h.lt).trans (h.fro q), fun i hi' => by obtain ⟨ys, hy, hF⟩ := h.row i hi'; exact ⟨ys, hy, hF.later hb⟩, h.off, h.par⟩
theorem MkN.set {lo hi : Nat} {W : World} {g : Nat} {us : List LNode} (h : MkN lo hi W g us) {i q : Nat} (hi' : i < us.length) (hq : q < 5) (u : Value) : MkN lo hi (W.setCell ⟨g, i * 6 + q, none⟩ u) g us := by
  obtain ⟨v0, hv0⟩ := h.cel i hi' q hq
  have far : ∀ p, p ≠ i * 6 + q → (W.setCell ⟨g, i * 6 + q, none⟩ u).cell? ⟨g, p, none⟩ = W.cell? ⟨g, p, none⟩ := fun p hp => by simp [go_sem]
  refine ⟨h.low, h.top, by simpa [World.setCell] using h.lt, fun j hj p hp => ?_, fun j hj => (far _ (by omega)).trans (h.nxt j hj), fun p => by simpa [go_sem] using h.fro p, fun j hj => ?_, h.off, h.par⟩
  · by_cases e : j * 6 + p = i * 6 + q
    · rw [e]; exact ⟨u, by simp [go_sem, hv0]⟩
    · obtain ⟨v, hv⟩ := h.cel j hj p hp
      exact ⟨v, (far _ e).trans hv⟩
  · obtain ⟨ys, hy, hF⟩ := h.row j hj
    exact ⟨ys, hy, hF.keepB fun b hb => Below.heap_setCell _ _ _ _ (fun e => h.off j hj (by simp only at e; rw [← e]; exact (rowOwn_len hy).1 hb))⟩
theorem Between.set {lo hi : Nat} (W : World) {a : Addr} (h1 : lo ≤ a.block) (h2 : a.block < hi) (u : Value) : Between lo hi W (W.setCell a u) :=
  ⟨rfl, rfl, rfl, by simp [World.setCell], fun k _ hr => Below.heap_setCell W a u k (by omega)⟩
theorem MkN.turn {lo hi : Nat} {W W' : World} {g : Nat} {us : List LNode} (h : MkN lo hi W g us) {i : Nat} (hi' : i < us.length) {ys : List Int} (hy : ys.length = (el us i).2.2.2.2.2.2.2.length) (hF : kI.Fresh lo hi W' (el us i).2.2.2.2.2.1 (el us i).2.2.2.2.2.2.1 ys) (hO : OnlyAt (eff (el us i).2.2.2.2.2.1 (el us i).2.2.2.2.2.2.2.length) W W') : MkN lo hi W' g us := by
  have hg : W'.heap[g]? = W.heap[g]? := only_own hO (h.off i hi')
  refine ⟨h.low, h.top, by rw [hO.size]; exact h.lt, fun j hj q hq => ?_, fun j hj => (World.cell?_of_block (a := ⟨g, j * 6 + 5, none⟩) hg).trans (h.nxt j hj), fun q => (World.frozen?_of_block (a := ⟨g, q, none⟩) hg).trans (h.fro q), fun j hj => ?_, h.off, h.par⟩
  · obtain ⟨v, hv⟩ := h.cel j hj q hq
    exact ⟨v, (World.cell?_of_block (a := ⟨g, j * 6 + q, none⟩) hg).trans hv⟩
  · by_cases e : j = i
    · subst e; exact ⟨ys, hy, hF⟩
    · obtain ⟨zs, hz, hFz⟩ := h.row j hj
      refine ⟨zs, hz, hFz.keepB fun b hb => only_own hO fun hb2 => ?_⟩
      have hb1 : dNode.own (el us j) b := (rowOwn_len hz).1 hb
      rcases Nat.lt_or_gt_of_ne e with hl | hl
      · exact h.par j i hl hi' b hb1 hb2
      · exact h.par i j hl hj b hb2 hb1
set_option maxRecDepth 10000 in
set_option maxHeartbeats 4000000 in
theorem markNodeS_any (lo hi g c : Nat) (us : List LNode) (w : World) (hl : us.length ≤ 1048576) (ht : totNode us ≤ 1048576) (hF : DFr dNode lo hi w (some ⟨g, 0, none⟩) c us) :
    Calls Tryz.prog 18 #[.slice (some ⟨g, 0, none⟩) us.length c, .int .i64 1] w fun e w' => (∃ k : Int, e = .returned (.int .i64 k) ∧ 0 ≤ k) ∧ Between lo hi w w' := by
  rcases Nat.eq_zero_or_pos us.length with h0 | h0
  · obtain rfl : us = [] := List.length_eq_zero_iff.1 h0
    clear hF
    go_enter Tryz.func18, Tryz.ntmps18
    go_wp2
    go_loop [1, 5] (fun v i => v = .int .i64 1 ∧ i = .int .i64 0) (fun _ _ => 0)
    case atStart => exact ⟨rfl, rfl⟩
    case round =>
      obtain ⟨rfl, rfl⟩ := hrel
      go_wp2
      go_ret
      exact ⟨⟨1, rfl, by omega⟩, Between.refl _ _ _⟩
  · have HM := hid (MkN.of hF h0)
    clear hF
    go_enter Tryz.func18, Tryz.ntmps18
    go_wp2
    go_loopw [1, 5] (fun v j wr => ∃ (i : Nat) (k : Int), i ≤ us.length ∧ j = .int .i64 i ∧ v = .int .i64 k ∧ 0 ≤ k ∧ k ≤ 1 + 5 * (i : Int) + totNode (us.take i) ∧ Hid (MkN lo hi wr g us) ∧ Hid (Between lo hi w wr)) (fun _ j _ => us.length - (intOf j).toNat)
    case atStart => exact ⟨0, 1, Nat.zero_le _, rfl, rfl, by omega, by simp [totNode], HM, Between.refl _ _ _⟩
    case round =>
      clear HM
      obtain ⟨i, k, hi', rfl, rfl, hk, hkk, hM, hB⟩ := hrel
      by_cases hlt : i < us.length
      · have ht1 := totNode_take hlt
        have ht2 := totNode_el hlt
        have hii : (i : Int) < (us.length : Int) := by omega
        unfold sizeNode at ht1 ht2
        go_wp2_with fail
        refine (markText_any k wr hk (by omega)).mono ?_
        rintro e w1 ⟨⟨s, rfl⟩, hb1⟩
        have hM1 := hid (hM.out.later hb1)
        have hB1 := hid (hB.out.trans (Between.of_below hb1))
        clear hb1 hM hB
        obtain ⟨v0, c0⟩ := hM1.out.cel i hlt 0 (by omega)
        obtain ⟨v1, c1⟩ := hM1.out.cel i hlt 1 (by omega)
        obtain ⟨v2, c2⟩ := hM1.out.cel i hlt 2 (by omega)
        obtain ⟨v3, c3⟩ := hM1.out.cel i hlt 3 (by omega)
        obtain ⟨v4, c4⟩ := hM1.out.cel i hlt 4 (by omega)
        have c5 := hM1.out.nxt i hlt
        have f0 := hM1.out.fro (i * 6)
        have f1 := hM1.out.fro (i * 6 + 1)
        have f2 := hM1.out.fro (i * 6 + 2)
        have f3 := hM1.out.fro (i * 6 + 3)
        have f4 := hM1.out.fro (i * 6 + 4)
        rw [Nat.add_zero] at c0
        have hgs := hM1.out.lt
        have HM5 := hid (((((hM1.out.set hlt (show 0 < 5 by omega) (.string s)).set hlt (show 1 < 5 by omega) (.int .i64 (k + 1))).set hlt (show 2 < 5 by omega) (.int .i64 (k + 1 + 1))).set hlt (show 3 < 5 by omega) (.int .i64 (k + 1 + 1 + 1))).set hlt (show 4 < 5 by omega) (.int .i64 (k + 1 + 1 + 1 + 1)))
        have hlo := hM1.out.low
        have hhi := hM1.out.top
        have HB5 := hid (hB1.out.trans (((((Between.set w1 (a := ⟨g, i * 6 + 0, none⟩) hlo hhi (.string s)).trans (Between.set _ (a := ⟨g, i * 6 + 1, none⟩) hlo hhi (.int .i64 (k + 1)))).trans (Between.set _ (a := ⟨g, i * 6 + 2, none⟩) hlo hhi (.int .i64 (k + 1 + 1)))).trans (Between.set _ (a := ⟨g, i * 6 + 3, none⟩) hlo hhi (.int .i64 (k + 1 + 1 + 1)))).trans (Between.set _ (a := ⟨g, i * 6 + 4, none⟩) hlo hhi (.int .i64 (k + 1 + 1 + 1 + 1)))))
        rw [Nat.add_zero] at HM5 HB5
        obtain ⟨W5, hW5⟩ : ∃ W5, W5 = ((((w1.setCell ⟨g, i * 6, none⟩ (.string s)).setCell ⟨g, i * 6 + 1, none⟩ (.int .i64 (k + 1))).setCell ⟨g, i * 6 + 2, none⟩ (.int .i64 (k + 1 + 1))).setCell ⟨g, i * 6 + 3, none⟩ (.int .i64 (k + 1 + 1 + 1))).setCell ⟨g, i * 6 + 4, none⟩ (.int .i64 (k + 1 + 1 + 1 + 1)) := ⟨_, rfl⟩
        rw [← hW5] at HM5 HB5
        have HW5 := hid hW5
        clear hW5 hM1 hB1
        obtain ⟨ys, hy, hFy⟩ := HM5.out.row i hlt
        have HFY := hid hFy
        have HTU := hid (fun W' zs h1 h2 h3 => HM5.out.turn (W' := W') hlt (ys := zs) h1 h2 h3)
        obtain ⟨nxo, h1⟩ : ∃ nxo, nxo = (el us i).2.2.2.2.2.1 := ⟨_, rfl⟩
        obtain ⟨nxc, h2⟩ : ∃ nxc, nxc = (el us i).2.2.2.2.2.2.1 := ⟨_, rfl⟩
        obtain ⟨n, h3⟩ : ∃ n, n = (el us i).2.2.2.2.2.2.2.length := ⟨_, rfl⟩
        rw [← h1, ← h2] at HFY
        rw [← h1, ← h2, ← h3] at c5
        rw [← h1, ← h2, ← h3] at HTU
        rw [← h3] at ht1 ht2 hy
        clear h1 h2 h3 HM5 hFy
        go_wp2_with fail
        rw [← HW5.out]
        have hmk := markIntS_any lo hi nxo nxc ys (k + 1 + 1 + 1 + 1 + 1) W5 (by omega) (by omega) (by omega) HFY.out
        rw [hy] at hmk
        refine hmk.mono ?_
        rintro e w6 ⟨rfl, hF6, hO6⟩
        have hM6 := hid (HTU.out w6 _ (by rw [markI_len]) hF6 hO6)
        have hB6 := hid (HB5.out.trans (HFY.out.between (by rw [hy]; exact hO6)))
        clear hF6 hO6
        go_wp2
        go_roundw
        case rel => exact ⟨i + 1, k + 1 + 1 + 1 + 1 + 1 + n, by omega, by go_num, rfl, by omega, by rw [ht1]; push_cast; omega, hM6, hB6⟩
        case measure => simp [intOf]; omega
      · obtain rfl : i = us.length := by omega
        go_wp2
        go_ret
        exact ⟨⟨k, rfl, hk⟩, hB.out⟩
end
section
open Go.RowKit

set_option maxRecDepth 10000 in
set_option maxHeartbeats 4000000 in
theorem markNodeK_any (lo hi g c : Nat) (us : List LNode) (w : World) (hl : us.length ≤ 1048576) (ht : totNode us ≤ 1048576) (hF : DFr dNode lo hi w (some ⟨g, 0, none⟩) c us) :
    Calls Tryz.prog 18 #[.slice (some ⟨g, 0, none⟩) us.length c, .int .i64 1] w fun e w' => (∃ k : Int, e = .returned (.int .i64 k) ∧ 0 ≤ k ∧ k ≤ 1 + 5 * us.length + totNode us) ∧ Between lo hi w w' := by
  rcases Nat.eq_zero_or_pos us.length with h0 | h0
  · obtain rfl : us = [] := List.length_eq_zero_iff.1 h0
    clear hF
    go_enter Tryz.func18, Tryz.ntmps18
    go_wp2
    go_loop [1, 5] (fun v i => v = .int .i64 1 ∧ i = .int .i64 0) (fun _ _ => 0)
    case atStart => exact ⟨rfl, rfl⟩
    case round =>
      obtain ⟨rfl, rfl⟩ := hrel
      go_wp2
      go_ret
      exact ⟨⟨1, rfl, by omega, by simp [totNode]⟩, Between.refl _ _ _⟩
  · have HM := hid (MkN.of hF h0)
    clear hF
    go_enter Tryz.func18, Tryz.ntmps18
    go_wp2
    go_loopw [1, 5] (fun v j wr => ∃ (i : Nat) (k : Int), i ≤ us.length ∧ j = .int .i64 i ∧ v = .int .i64 k ∧ 0 ≤ k ∧ k ≤ 1 + 5 * (i : Int) + totNode (us.take i) ∧ Hid (MkN lo hi wr g us) ∧ Hid (Between lo hi w wr)) (fun _ j _ => us.length - (intOf j).toNat)
    case atStart => exact ⟨0, 1, Nat.zero_le _, rfl, rfl, by omega, by simp [totNode], HM, Between.refl _ _ _⟩
    case round =>
      clear HM
      obtain ⟨i, k, hi', rfl, rfl, hk, hkk, hM, hB⟩ := hrel
      by_cases hlt : i < us.length
      · have ht1 := totNode_take hlt
        have ht2 := totNode_el hlt
        have hii : (i : Int) < (us.length : Int) := by omega
        unfold sizeNode at ht1 ht2
        go_wp2_with fail
        refine (markText_any k wr hk (by omega)).mono ?_
        rintro e w1 ⟨⟨s, rfl⟩, hb1⟩
        have hM1 := hid (hM.out.later hb1)
        have hB1 := hid (hB.out.trans (Between.of_below hb1))
        clear hb1 hM hB
        obtain ⟨v0, c0⟩ := hM1.out.cel i hlt 0 (by omega)
        obtain ⟨v1, c1⟩ := hM1.out.cel i hlt 1 (by omega)
        obtain ⟨v2, c2⟩ := hM1.out.cel i hlt 2 (by omega)
        obtain ⟨v3, c3⟩ := hM1.out.cel i hlt 3 (by omega)
        obtain ⟨v4, c4⟩ := hM1.out.cel i hlt 4 (by omega)
        have c5 := hM1.out.nxt i hlt
        have f0 := hM1.out.fro (i * 6)
        have f1 := hM1.out.fro (i * 6 + 1)
        have f2 := hM1.out.fro (i * 6 + 2)
        have f3 := hM1.out.fro (i * 6 + 3)
        have f4 := hM1.out.fro (i * 6 + 4)
        rw [Nat.add_zero] at c0
        have hgs := hM1.out.lt
        have HM5 := hid (((((hM1.out.set hlt (show 0 < 5 by omega) (.string s)).set hlt (show 1 < 5 by omega) (.int .i64 (k + 1))).set hlt (show 2 < 5 by omega) (.int .i64 (k + 1 + 1))).set hlt (show 3 < 5 by omega) (.int .i64 (k + 1 + 1 + 1))).set hlt (show 4 < 5 by omega) (.int .i64 (k + 1 + 1 + 1 + 1)))
        have hlo := hM1.out.low
        have hhi := hM1.out.top
        have HB5 := hid (hB1.out.trans (((((Between.set w1 (a := ⟨g, i * 6 + 0, none⟩) hlo hhi (.string s)).trans (Between.set _ (a := ⟨g, i * 6 + 1, none⟩) hlo hhi (.int .i64 (k + 1)))).trans (Between.set _ (a := ⟨g, i * 6 + 2, none⟩) hlo hhi (.int .i64 (k + 1 + 1)))).trans (Between.set _ (a := ⟨g, i * 6 + 3, none⟩) hlo hhi (.int .i64 (k + 1 + 1 + 1)))).trans (Between.set _ (a := ⟨g, i * 6 + 4, none⟩) hlo hhi (.int .i64 (k + 1 + 1 + 1 + 1)))))
        rw [Nat.add_zero] at HM5 HB5
        obtain ⟨W5, hW5⟩ : ∃ W5, W5 = ((((w1.setCell ⟨g, i * 6, none⟩ (.string s)).setCell ⟨g, i * 6 + 1, none⟩ (.int .i64 (k + 1))).setCell ⟨g, i * 6 + 2, none⟩ (.int .i64 (k + 1 + 1))).setCell ⟨g, i * 6 + 3, none⟩ (.int .i64 (k + 1 + 1 + 1))).setCell ⟨g, i * 6 + 4, none⟩ (.int .i64 (k + 1 + 1 + 1 + 1)) := ⟨_, rfl⟩
        rw [← hW5] at HM5 HB5
        have HW5 := hid hW5
        clear hW5 hM1 hB1
        obtain ⟨ys, hy, hFy⟩ := HM5.out.row i hlt
        have HFY := hid hFy
        have HTU := hid (fun W' zs h1 h2 h3 => HM5.out.turn (W' := W') hlt (ys := zs) h1 h2 h3)
        obtain ⟨nxo, h1⟩ : ∃ nxo, nxo = (el us i).2.2.2.2.2.1 := ⟨_, rfl⟩
        obtain ⟨nxc, h2⟩ : ∃ nxc, nxc = (el us i).2.2.2.2.2.2.1 := ⟨_, rfl⟩
        obtain ⟨n, h3⟩ : ∃ n, n = (el us i).2.2.2.2.2.2.2.length := ⟨_, rfl⟩
        rw [← h1, ← h2] at HFY
        rw [← h1, ← h2, ← h3] at c5
        rw [← h1, ← h2, ← h3] at HTU
        rw [← h3] at ht1 ht2 hy
        clear h1 h2 h3 HM5 hFy
        go_wp2_with fail
        rw [← HW5.out]
        have hmk := markIntS_any lo hi nxo nxc ys (k + 1 + 1 + 1 + 1 + 1) W5 (by omega) (by omega) (by omega) HFY.out
        rw [hy] at hmk
        refine hmk.mono ?_
        rintro e w6 ⟨rfl, hF6, hO6⟩
        have hM6 := hid (HTU.out w6 _ (by rw [markI_len]) hF6 hO6)
        have hB6 := hid (HB5.out.trans (HFY.out.between (by rw [hy]; exact hO6)))
        clear hF6 hO6
        go_wp2
        go_roundw
        case rel => exact ⟨i + 1, k + 1 + 1 + 1 + 1 + 1 + n, by omega, by go_num, rfl, by omega, by rw [ht1]; push_cast; omega, hM6, hB6⟩
        case measure => simp [intOf]; omega
      · obtain rfl : i = us.length := by omega
        go_wp2
        go_ret
        rw [List.take_length] at hkk
        exact ⟨⟨k, rfl, hk, hkk⟩, hB.out⟩
end
section
open Go.RowKit

theorem accR_len (gs : List PNode) (ms : List (Int × Int × Int)) (item : Int) : (accR gs ms item).1.length ≤ 400 := by
  unfold accR
  split
  · unfold sortR
    split
    · simp
    · rw [sortE_len]; omega
  · simp
theorem tot_valA {us ts : List LNode} (hv : us.map valNode = ts.map valNode) : totNode us = totNode ts := by
  have h : ∀ l : List LNode, totNode l = ((l.map valNode).map fun p : PNode => p.1.size + p.2.2.2.2.2.length).sum := fun l => by rw [totNode, List.map_map]; rfl
  rw [h, h, hv]
set_option maxRecDepth 100000 in
set_option maxHeartbeats 16000000 in
theorem lawAcc_any (ao : Option Addr) (cap : Nat) (ts : List LNode) (mo : Option Addr) (mc : Nat) (ms : List (Int × Int × Int)) (item : Int) (ea : Nat → Addr) (w : World) (hl : ts.length ≤ 9223372036854775807) (hle : ∀ a ∈ ts, a.1.size ≤ 9223372036854775807 ∧ (a.2.2.2.2.2).2.2.length ≤ 9223372036854775807) (hz : DIn dNode w.heap.size w ao ts) (hml : ms.length ≤ 9223372036854775807) (h64 : ∀ k, k < ms.length → (el ms k).1 ≤ 9223372036854775807) (hM : kMv.In w.heap.size w mo ms) (hE : Errs w ea) :
    Calls Tryz.prog 5 #[.slice ao ts.length cap, .slice mo ms.length mc, .int .i64 item] w fun e w' => e = .returned (.bool true) ∧ Below w.heap.size w w' := by
  have HZ := hid hz
  have HLE := hid hle
  have HE := hid hE
  have HM := hid hM
  have H64 := hid h64
  clear hz hle hE hM h64
  have hq0 := accR_len (ts.map valNode) ms item
  obtain ⟨⟨Rl, y⟩, hR⟩ : ∃ R, accR (ts.map valNode) ms item = R := ⟨_, rfl⟩
  rw [hR] at hq0
  have hn2 : (y != y) = false := by simp
  have HR := hid hR
  clear hR
  go_enter Tryz.func5, Tryz.ntmps5
  go_wp2_with fail
  refine (szNodeS_any ao cap ts 1048576 w (by omega) (by omega) hl HLE.out HZ.out.1).mono ?_
  rintro e w1 ⟨⟨r, rfl, hr1, hr⟩, hB1⟩
  rcases hr with hr | ⟨hr2, hr0⟩
  · go_wp2
    go_ret
    exact ⟨rfl, hB1⟩
  have hl2 : ts.length ≤ 1048576 := by omega
  have htt : totNode ts ≤ 1048576 := by omega
  have HTT := hid htt
  have hr' : decide (r < 0) = false := by simpa using hr0
  clear hr2 htt
  go_wp2_with fail
  refine (szMoveS_any mo ms.length mc r w1 hr0 hr1 hml).mono ?_
  rintro e w1b ⟨⟨r2, rfl, hq1, hq⟩, hw1b⟩
  rw [hw1b]
  clear hw1b w1b
  rcases hq with hq | ⟨hq2, hq0⟩
  · go_wp2
    go_ret
    exact ⟨rfl, hB1⟩
  have hml2 : ms.length ≤ 1048576 := by omega
  have hr2' : decide (r2 < 0) = false := by simpa using hq0
  clear hq2 hq0 hq1 hr0 hr1
  go_wp2_with fail
  refine (toNodeS_ts ao cap ts w1 hl2 HTT.out (HZ.out.later dNode_ok hB1)).mono ?_
  rintro e w2 ⟨g2, us2, rfl, hn2', hv2, hD2, hC2, hb2⟩
  have hB2 := hB1.trans (hb2.mono hB1.size)
  have D2 := hid (hD2.in dNode_ok)
  have V2 := hid (And.intro hn2' (And.intro hv2 hC2))
  clear hb2 hD2 hv2 hC2 hn2'
  go_wp2_with fail
  refine (toMoveS_any mo mc ms w2 hml2 (HM.out.later hB2)).mono ?_
  rintro e w3 ⟨rfl, hF3, hb3⟩
  have hB3 := hB2.trans (hb3.mono hB2.size)
  have D3 := hid (D2.out.later dNode_ok hb3)
  have M3 := hid hF3.in
  clear hb3 hF3 D2
  have hq : Rl.length ≤ 1048576 := by omega
  clear hq0
  have hcon := specAcc_any (some ⟨g2, 0, none⟩) ts.length us2 (some ⟨w2.heap.size, 0, none⟩) ms.length ms item w3 V2.out.2.2 D3.out M3.out H64.out
  rw [V2.out.1, V2.out.2.1, HR.out] at hcon
  clear D3 V2 M3
  unfold AnsEB at hcon
  dsimp only at hcon
  go_wp2_with fail
  refine hcon.mono ?_
  rintro e w4 ⟨⟨o4, c4, rfl, hF4⟩, hb4⟩
  have hB4 := hB3.trans (hb4.mono hB3.size)
  have S4 := hid hF4
  clear hb4 hcon hF4
  go_wp2_with fail
  refine (toNodeS_ts ao cap ts w4 hl2 HTT.out (HZ.out.later dNode_ok hB4)).mono ?_
  rintro e w5 ⟨g5, us5, rfl, hn5', hv5, hD5, hC5, hb5⟩
  have hB5 := hB4.trans (hb5.mono hB4.size)
  have S5 := hid (S4.out.later hb5)
  have h45 := hb5.size
  have X5 := hid hD5
  have V5 := hid (And.intro hn5' (And.intro hv5 hC5))
  clear hb5 hD5 hv5 hC5 hn5' S4
  go_wp2_with fail
  refine (toMoveS_any mo mc ms w5 hml2 (HM.out.later hB5)).mono ?_
  rintro e w6 ⟨rfl, hF6, hb6⟩
  have hB6 := hB5.trans (hb6.mono hB5.size)
  have h56 := hb6.size
  have S6 := hid (S5.out.later hb6)
  have X6 := hid (X5.out.later dNode_ok hb6)
  have Y6 := hid hF6
  have hcon := implAcc_any (some ⟨g5, 0, none⟩) ts.length us5 ea (some ⟨w5.heap.size, 0, none⟩) ms.length ms item w6 V5.out.2.2 (HE.out.later hB6) (X6.out.in dNode_ok) Y6.out.in H64.out
  rw [V5.out.1, V5.out.2.1, HR.out] at hcon
  clear hb6 hF6 X5 S5
  unfold AnsEB at hcon
  dsimp only at hcon
  go_wp2_with fail
  refine hcon.mono ?_
  rintro e w7 ⟨⟨o7, c7, rfl, hF7⟩, hb7⟩
  have hB7 := hB6.trans (hb7.mono hB6.size)
  have h67 := hb7.size
  have S7 := hid (S6.out.later hb7)
  have X7 := hid (X6.out.later dNode_ok hb7)
  have Y7 := hid (Y6.out.later hb7)
  have T7 := hid hF7
  have N7 : Hid (w7.heap.size ≤ w7.heap.size) := Nat.le_refl _
  clear hb7 hcon hF7 S6 X6 Y6
  go_wp2_with fail
  refine (eqEmitS_same o7 o4 c7 c4 Rl w7 hq T7.out.in S7.out.in).mono ?_
  rintro e w8 ⟨rfl, hb8⟩
  have hB8 := hB7.trans (hb8.mono hB7.size)
  have S8 := hid (S7.out.later hb8)
  have X8 := hid (X7.out.later dNode_ok hb8)
  have Y8 := hid (Y7.out.later hb8)
  have T8 := hid (T7.out.later hb8)
  have N8 := hid (Nat.le_trans N7.out hb8.size)
  clear S7 X7 Y7 T7 N7
  clear hb8
  go_wp2_with fail
  refine (toNodeS_ts ao cap ts w8 hl2 HTT.out (HZ.out.later dNode_ok hB8)).mono ?_
  rintro e w9 ⟨g9, us9, rfl, hn9, hv9, hD9, hC9, hb9⟩
  have hB9 := hB8.trans (hb9.mono hB8.size)
  have S9 := hid (S8.out.later hb9)
  have X9 := hid (X8.out.later dNode_ok hb9)
  have Y9 := hid (Y8.out.later hb9)
  have T9 := hid (T8.out.later hb9)
  have N9 := hid (Nat.le_trans N8.out hb9.size)
  clear S8 X8 Y8 T8 N8
  have D9 := hid (hD9.in dNode_ok)
  have HV9 := hid hv9
  clear hb9 hD9 hv9 hC9 hn9
  go_wp2_with fail
  refine (eqNodeS_ts g5 g9 us5 us9 ts w9 hl2 V5.out.2.1 HV9.out V5.out.2.2 (X9.out.in dNode_ok) D9.out).mono ?_
  rintro e w10 ⟨rfl, hb10⟩
  have hB10 := hB9.trans (hb10.mono hB9.size)
  have S10 := hid (S9.out.later hb10)
  have X10 := hid (X9.out.later dNode_ok hb10)
  have Y10 := hid (Y9.out.later hb10)
  have T10 := hid (T9.out.later hb10)
  have N10 := hid (Nat.le_trans N9.out hb10.size)
  clear S9 X9 Y9 T9 N9
  clear hb10 D9 HV9
  go_wp2_with fail
  refine (toMoveS_any mo mc ms w10 hml2 (HM.out.later hB10)).mono ?_
  rintro e w11 ⟨rfl, hF11, hb11⟩
  have hB11 := hB10.trans (hb11.mono hB10.size)
  have S11 := hid (S10.out.later hb11)
  have X11 := hid (X10.out.later dNode_ok hb11)
  have Y11 := hid (Y10.out.later hb11)
  have T11 := hid (T10.out.later hb11)
  have N11 := hid (Nat.le_trans N10.out hb11.size)
  clear S10 X10 Y10 T10 N10
  have M11 := hid hF11.in
  clear hb11 hF11
  go_wp2_with fail
  refine (eqMoveS_same (some ⟨w5.heap.size, 0, none⟩) (some ⟨w10.heap.size, 0, none⟩) ms.length ms.length ms w11 hml2 Y11.out.in M11.out).mono ?_
  rintro e w12 ⟨rfl, hb12⟩
  have hB12 := hB11.trans (hb12.mono hB11.size)
  have S12 := hid (S11.out.later hb12)
  have X12 := hid (X11.out.later dNode_ok hb12)
  have Y12 := hid (Y11.out.later hb12)
  have T12 := hid (T11.out.later hb12)
  have N12 := hid (Nat.le_trans N11.out hb12.size)
  clear S11 X11 Y11 T11 N11
  clear hb12 M11
  have hmk := markNodeK_any w4.heap.size w5.heap.size g5 ts.length us5 w12 (by rw [V5.out.1]; exact hl2) (by rw [tot_valA V5.out.2.1]; exact HTT.out) X12.out
  rw [V5.out.1, tot_valA V5.out.2.1] at hmk
  go_wp2_with fail
  refine hmk.mono ?_
  rintro e w13 ⟨⟨kk, rfl, hkk, hkm⟩, hb13⟩
  have hlow : w4.heap.size ≤ w12.heap.size := by have := N12.out; omega
  have hB13 := hB12.trans ((hb13.below hlow).mono (by have := hB4.size; omega))
  have S13 := hid (S12.out.between' hb13 (by omega))
  have Y13 := hid (Y12.out.between' hb13 (by omega))
  have T13 := hid (T12.out.between' hb13 (by omega))
  have N13 := hid (Nat.le_trans N12.out hb13.size)
  have hkm2 : kk ≤ 8000000 := by have := HTT.out; omega
  clear S12 X12 Y12 T12 N12 hb13 hlow hmk hkm
  go_wp2_with fail
  refine (markMoveS_any w5.heap.size w6.heap.size (some ⟨w5.heap.size, 0, none⟩) ms.length ms kk w13 (by omega) hkk (by omega) Y13.out).mono ?_
  rintro e w14 ⟨rfl, _, hO14⟩
  have hb14 : Between w5.heap.size w6.heap.size w13 w14 := Y13.out.between hO14
  have hlow : w5.heap.size ≤ w13.heap.size := by have := N13.out; omega
  have hB14 := hB13.trans ((hb14.below hlow).mono (by have := hB5.size; omega))
  have S14 := hid (S13.out.between' hb14 (by omega))
  have T14 := hid (T13.out.between' hb14 (by omega))
  have N14 := hid (Nat.le_trans N13.out hb14.size)
  clear S13 Y13 T13 N13 hb14 hO14 hlow
  have hk0 : decide (kk + 3 * (ms.length : Int) < 0) = false := by simp; omega
  go_wp2_with fail
  refine (eqEmitS_same o7 o4 c7 c4 Rl w14 hq T14.out.in S14.out.in).mono ?_
  rintro e w15 ⟨rfl, hb15⟩
  have hB15 := hB14.trans (hb15.mono hB14.size)
  have S15 := hid (S14.out.later hb15)
  have T15 := hid (T14.out.later hb15)
  have N15 := hid (Nat.le_trans N14.out hb15.size)
  clear S14 T14 N14
  clear hb15 hk0
  go_wp2_with fail
  refine (markEmitS_any w6.heap.size w7.heap.size o7 c7 Rl 1 w15 (by omega) (by omega) (by omega) T15.out).mono ?_
  rintro e w16 ⟨rfl, hT16, hOz⟩
  have hb16 : Between w6.heap.size w7.heap.size w15 w16 := T15.out.between hOz
  have hlow : w6.heap.size ≤ w15.heap.size := by have := N15.out; omega
  have hB16 := hB15.trans ((hb16.below hlow).mono (by have := hB6.size; omega))
  have S16 := hid (S15.out.between' hb16 (by omega))
  have T16 := hid hT16
  have N16 := hid (Nat.le_trans N15.out hb16.size)
  clear S15 T15 N15 hT16 hb16 hOz hlow
  have hmq : ((1 : Int) + 2 * (Rl.length : Int) != 1 + 2 * (Rl.length : Int)) = false := by simp
  go_wp2_with fail
  refine (heldEmitS_any o7 c7 Rl.length 1 w16 (by omega) (by omega) (by omega) T16.out.in).mono ?_
  rintro e w17 ⟨rfl, hw17⟩
  rw [hw17]
  clear hw17 w17
  have hm0 : decide ((1 : Int) + 2 * (Rl.length : Int) < 0) = false := by simp; omega
  go_wp2_with fail
  refine (toNodeS_ts ao cap ts w16 hl2 HTT.out (HZ.out.later dNode_ok hB16)).mono ?_
  rintro e w18 ⟨g18, us18, rfl, hn18, hv18, hD18, hC18, hb18⟩
  have hB18 := hB16.trans (hb18.mono hB16.size)
  have S18 := hid (S16.out.later hb18)
  have T18 := hid (T16.out.later hb18)
  have N18 := hid (Nat.le_trans N16.out hb18.size)
  clear S16 T16 N16
  have D18 := hid (hD18.in dNode_ok)
  have V18 := hid (And.intro hn18 (And.intro hv18 hC18))
  clear hb18 hD18 hv18 hC18 hn18
  go_wp2_with fail
  refine (toMoveS_any mo mc ms w18 hml2 (HM.out.later hB18)).mono ?_
  rintro e w19 ⟨rfl, hF19, hb19⟩
  have hB19 := hB18.trans (hb19.mono hB18.size)
  have S19 := hid (S18.out.later hb19)
  have T19 := hid (T18.out.later hb19)
  have N19 := hid (Nat.le_trans N18.out hb19.size)
  clear S18 T18 N18
  have D19 := hid (D18.out.later dNode_ok hb19)
  have M19 := hid hF19.in
  have hcon := implAcc_any (some ⟨g18, 0, none⟩) ts.length us18 ea (some ⟨w18.heap.size, 0, none⟩) ms.length ms item w19 V18.out.2.2 (HE.out.later hB19) D19.out M19.out H64.out
  rw [V18.out.1, V18.out.2.1, HR.out] at hcon
  clear hb19 hF19 D18
  unfold AnsEB at hcon
  dsimp only at hcon
  go_wp2_with fail
  refine hcon.mono ?_
  rintro e w20 ⟨⟨o20, c20, rfl, hF20⟩, hb20⟩
  have hB20 := hB19.trans (hb20.mono hB19.size)
  have S20 := hid (S19.out.later hb20)
  have T20 := hid (T19.out.later hb20)
  have N20 := hid (Nat.le_trans N19.out hb20.size)
  clear S19 T19 N19
  have U20 := hid hF20
  clear hb20 hcon hF20 D19 M19
  go_wp2_with fail
  refine (eqEmitS_same o20 o4 c20 c4 Rl w20 hq U20.out.in S20.out.in).mono ?_
  rintro e w21 ⟨rfl, hb21⟩
  have hB21 := hB20.trans (hb21.mono hB20.size)
  have T21 := hid (T20.out.later hb21)
  clear hb21 S20 U20 T20 N20
  go_wp2_with fail
  refine (heldEmitS_any o7 c7 Rl.length 1 w21 (by omega) (by omega) (by omega) T21.out.in).mono ?_
  rintro e w22 ⟨rfl, hw22⟩
  rw [hw22]
  clear hw22 w22
  go_wp2
  go_ret
  exact ⟨rfl, hB21⟩
end
end Go.Proofs.YtoeonbdoopboiaaGreatDoor
