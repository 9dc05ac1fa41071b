
/- Drawn chains; a number of bytes; rows held against each other. No conditions but those written. -/
import Derived.Test.YtnjnnilmelmmgaaYb
namespace Go.Proofs.Ytnjnnilmelmmgaa
open Go.RowKit

theorem BytesIn.later {n m : Nat} {W W' : World} {co : Option Addr} {bs : List Int} (h : BytesIn n W co bs) (hb : Below n W W') (hm : n ≤ m) : BytesIn m W' co bs := by
  rcases h with h | ⟨b, off, e, hbn, hc⟩
  · exact .inl h
  · exact .inr ⟨b, off, e, by omega, fun j hj => ⟨(World.cell?_of_block (a := ⟨b, off + j, none⟩) (hb.block b hbn)).trans (hc j hj).1, (hc j hj).2⟩⟩
theorem Cur.of {W : World} {p : Nat} {co : Option Addr} {cap : Nat} {bs : List Int} {k : Nat} {sd : Int} (h : Bx W p [.slice co bs.length cap, .int .i64 (k : Int), .int .u64 sd]) (hb : BytesIn p W co bs) : Cur W p co cap bs k sd := ⟨h.1, ⟨h.c 0 rfl, h.c 1 rfl, h.c 2 rfl⟩, ⟨h.f 0 rfl, h.f 1 rfl, h.f 2 rfl⟩, hb⟩
/-- The drawn lists go on: the loop and what follows it. -/
def AnsC (w : World) (e : Ending) (w' : World) : Prop :=
  (∃ o c ts x, e = .returned (.tuple #[.slice o (ts : List (Int × Int × Int)).length c, .int .i64 x]) ∧ ts.length ≤ 9 ∧ (o = none → c = 0) ∧ kG.Fresh w.heap.size w'.heap.size w' o c ts) ∧ Below w.heap.size w w'
set_option maxRecDepth 100000 in
set_option maxHeartbeats 16000000 in
theorem drawChain_any (co : Option Addr) (cap : Nat) (bs : List Int) (w : World) (hl : bs.length ≤ 9223372036854775807) (hb : BytesIn w.heap.size w co bs) :
    Calls Try.prog 36 #[.slice co bs.length cap] w (AnsC w) := by
  obtain ⟨p, hp⟩ : ∃ p, p = w.heap.size := ⟨_, rfl⟩
  obtain ⟨w0, hw0⟩ : ∃ w0, w0 = w.alloc (.cells #[.slice co bs.length cap, .int .i64 0, .int .u64 0] 77) := ⟨_, rfl⟩
  have hB0 : Below w.heap.size w w0 := by rw [hw0]; exact below1 _ _
  have X0 : Bx w0 w.heap.size [.slice co bs.length cap, .int .i64 ((0 : Nat) : Int), .int .u64 0] := by rw [hw0]; exact Bx.new [.slice co bs.length cap, .int .i64 0, .int .u64 0] _ rfl
  have hC0 := hid (Cur.of X0 (hb.later hB0 (Nat.le_refl _)))
  have hs0 : w.heap.size + 1 ≤ w0.heap.size := by rw [hw0]; simp
  have H0 := hid hw0
  clear hw0 X0
  go_enter Try.func36, Try.ntmps36
  go_wp2_with fail
  rw [← H0.out]
  refine (pick_any 5 w.heap.size co cap bs 0 0 w0 hl (by omega) hC0.out).mono ?_
  rintro e w1 ⟨⟨n, rfl, hn0, hn1⟩, hD⟩
  obtain ⟨k1, sd1, hk1, hC1, hg1, hsz1⟩ := hD.grew
  have HC1 := hid hC1
  have hB1 := hB0.trans (hg1.below (Nat.le_refl _) (by omega))
  clear hD hC1 hg1 hC0 H0
  go_wp2_with fail
  refine (one_any 20 w.heap.size co cap bs k1 sd1 w1 hl (by omega) HC1.out).mono ?_
  rintro e w2 ⟨⟨b, rfl⟩, hD⟩
  obtain ⟨k2, sd2, hk2, hC2, hg2, hsz2⟩ := hD.grew
  have HC2 := hid hC2
  have hB2 := hB1.trans (hg2.below (Nat.le_refl _) (by omega))
  clear hD hC2 hg2 HC1 hB1
  cases b with
  | true =>
    go_wp2_with fail
    refine (pick_any 2 w.heap.size co cap bs k2 sd2 w2 hl (by omega) HC2.out).mono ?_
    rintro e w3 ⟨⟨n2, rfl, hm0, hm1⟩, hD⟩
    obtain ⟨k3, sd3, hk3, hC3, hg3, hsz3⟩ := hD.grew
    have HC3 := hid hC3
    have hB3 := hB2.trans (hg3.below (Nat.le_refl _) (by omega))
    obtain ⟨m, hm⟩ : ∃ m : Nat, 8 + n2 = m := ⟨(8 + n2).toNat, by omega⟩
    have hm9 : m ≤ 9 := by omega
    have hs3 : w.heap.size + 1 ≤ w3.heap.size := by omega
    clear hD hC3 hg3 HC2 hB2
    go_wp2
    go_loopw [5, 6] (fun u i wr => ∃ (j : Nat) (v : Value) (ts : List (Int × Int × Int)) (k' : Nat) (sd' : Int), v = u ∧ j + ts.length = m ∧ i = .int .i64 j ∧ Hid (kG.Own (w.heap.size + 1) wr v ts) ∧ Hid (Cur wr w.heap.size co cap bs k' sd') ∧ k' ≤ 6 + 20 * ts.length ∧ Below w.heap.size w wr ∧ w.heap.size + 1 ≤ wr.heap.size) (fun _ i _ => (intOf i).toNat)
    case atStart => exact ⟨m, _, [], k3, sd3, rfl, by simp, rfl, Kind.Own.nil _ _ _, HC3, by simp; omega, hB3, hs3⟩
    case round =>
      obtain ⟨j, v, ts, k', sd', rfl, hj, rfl, hO, hC, hk', hB, hs⟩ := hrel
      by_cases hlt : 0 < j
      · have hj' : decide ((0 : Int) < (j : Int)) = true := by simp; omega
        go_wp2_with fail
        refine (stage_any w.heap.size co cap bs k' sd' wr hl (by omega) hC.out).mono ?_
        rintro e w5 ⟨⟨x1, x2, x3, rfl⟩, ⟨k5, sd5, hk5, hC5, hg5⟩⟩
        have HC5 := hid (hC5.later (below1 w5 (.cells #[.int .i64 x1, .int .i64 x2, .int .i64 x3] 25)))
        have HOA := hid ((hO.out.grew hg5 (by omega)).below (below1 w5 (.cells #[.int .i64 x1, .int .i64 x2, .int .i64 x3] 25)))
        have HN : Hid (kG.In (w5.heap.size + 1) (w5.alloc (.cells #[.int .i64 x1, .int .i64 x2, .int .i64 x3] 25)) (some ⟨w5.heap.size, 0, none⟩) [(x1, x2, x3)]) := kG_one (by omega) (by simp) (by simp) (by simp)
        have hB5 := hB.trans (hg5.below (Nat.le_refl _) (by omega))
        have hBA := Below.allocS hB5 (.cells #[.int .i64 x1, .int .i64 x2, .int .i64 x3] 25)
        have hs5 : w.heap.size + 1 ≤ w5.heap.size := by have := hg5.size; omega
        clear hC5 hg5 hC hO hB5
        go_wp2_with (at_builtin; refine Kind.app kG_ok (w5.alloc (.cells #[.int .i64 x1, .int .i64 x2, .int .i64 x3] 25)) rfl (.tmp 21) (.tmp 24) rfl (w.heap.size + 1) v ts rfl HOA.out (by simp; omega) (some ⟨w5.heap.size, 0, none⟩) [(x1, x2, x3)] 1 1 rfl rfl (by simp) _ HN.out (by simp; omega) ?_; intro v' w' hO' hB' hG' hn'; have hB6 := hBA.trans (hB'.mono (by omega)); have HC6 := hid (HC5.out.below hB' (by omega)); have HO' := hid hO'; have hs6 : w.heap.size + 1 ≤ w'.heap.size := (by have := hB'.size; simp at this; omega); clear hO' hB' hG' hn')
        go_roundw
        case rel => exact ⟨j - 1, v', ts ++ [(x1, x2, x3)], k5, sd5, rfl, by simp; omega, by go_num, HO', HC6, by simp; omega, hB6, hs6⟩
        case measure => simp [intOf]; omega
      · have hj' : decide ((0 : Int) < (j : Int)) = false := by simp; omega
        go_wp2_with fail
        refine (value_any w.heap.size co cap bs k' sd' wr hl (by omega) hC.out).mono ?_
        rintro e w5 ⟨⟨x, rfl⟩, ⟨k5, sd5, hk5, hC5, hg5⟩⟩
        have hO5 := hO.out.grew hg5 (by omega)
        have hB5 := hB.trans (hg5.below (Nat.le_refl _) (by omega))
        obtain ⟨qo, qc, rfl, hq0, hF⟩ := hO5.fresh
        have HF := hid (hF.wide (lo' := w.heap.size) (by omega) (Nat.le_refl _))
        have HQ := hid hq0
        clear hF hO hq0 hC5 hg5 hO5
        go_wp2
        exact bodyPost_ret (v := .tuple #[.slice qo ts.length qc, .int .i64 x]) (by simp [results, Try.results36, go_sem]) rfl ⟨⟨_, _, ts, _, rfl, by omega, HQ.out, HF.out⟩, hB5⟩
  | false =>
    obtain ⟨m, hm⟩ : ∃ m : Nat, n = m := ⟨n.toNat, by omega⟩
    have hm9 : m ≤ 9 := by omega
    have hs3 : w.heap.size + 1 ≤ w2.heap.size := by omega
    have HC3 := HC2
    have hB3 := hB2
    have hk3 : k2 ≤ 6 := by omega
    clear HC2 hB2
    subst hm
    go_wp2
    go_loopw [5, 6] (fun u i wr => ∃ (j : Nat) (v : Value) (ts : List (Int × Int × Int)) (k' : Nat) (sd' : Int), v = u ∧ j + ts.length = m ∧ i = .int .i64 j ∧ Hid (kG.Own (w.heap.size + 1) wr v ts) ∧ Hid (Cur wr w.heap.size co cap bs k' sd') ∧ k' ≤ 6 + 20 * ts.length ∧ Below w.heap.size w wr ∧ w.heap.size + 1 ≤ wr.heap.size) (fun _ i _ => (intOf i).toNat)
    case atStart => exact ⟨m, _, [], k2, sd2, rfl, by simp, rfl, Kind.Own.nil _ _ _, HC3, by simp; omega, hB3, hs3⟩
    case round =>
      obtain ⟨j, v, ts, k', sd', rfl, hj, rfl, hO, hC, hk', hB, hs⟩ := hrel
      by_cases hlt : 0 < j
      · have hj' : decide ((0 : Int) < (j : Int)) = true := by simp; omega
        go_wp2_with fail
        refine (stage_any w.heap.size co cap bs k' sd' wr hl (by omega) hC.out).mono ?_
        rintro e w5 ⟨⟨x1, x2, x3, rfl⟩, ⟨k5, sd5, hk5, hC5, hg5⟩⟩
        have HC5 := hid (hC5.later (below1 w5 (.cells #[.int .i64 x1, .int .i64 x2, .int .i64 x3] 25)))
        have HOA := hid ((hO.out.grew hg5 (by omega)).below (below1 w5 (.cells #[.int .i64 x1, .int .i64 x2, .int .i64 x3] 25)))
        have HN : Hid (kG.In (w5.heap.size + 1) (w5.alloc (.cells #[.int .i64 x1, .int .i64 x2, .int .i64 x3] 25)) (some ⟨w5.heap.size, 0, none⟩) [(x1, x2, x3)]) := kG_one (by omega) (by simp) (by simp) (by simp)
        have hB5 := hB.trans (hg5.below (Nat.le_refl _) (by omega))
        have hBA := Below.allocS hB5 (.cells #[.int .i64 x1, .int .i64 x2, .int .i64 x3] 25)
        have hs5 : w.heap.size + 1 ≤ w5.heap.size := by have := hg5.size; omega
        clear hC5 hg5 hC hO hB5
        go_wp2_with (at_builtin; refine Kind.app kG_ok (w5.alloc (.cells #[.int .i64 x1, .int .i64 x2, .int .i64 x3] 25)) rfl (.tmp 21) (.tmp 24) rfl (w.heap.size + 1) v ts rfl HOA.out (by simp; omega) (some ⟨w5.heap.size, 0, none⟩) [(x1, x2, x3)] 1 1 rfl rfl (by simp) _ HN.out (by simp; omega) ?_; intro v' w' hO' hB' hG' hn'; have hB6 := hBA.trans (hB'.mono (by omega)); have HC6 := hid (HC5.out.below hB' (by omega)); have HO' := hid hO'; have hs6 : w.heap.size + 1 ≤ w'.heap.size := (by have := hB'.size; simp at this; omega); clear hO' hB' hG' hn')
        go_roundw
        case rel => exact ⟨j - 1, v', ts ++ [(x1, x2, x3)], k5, sd5, rfl, by simp; omega, by go_num, HO', HC6, by simp; omega, hB6, hs6⟩
        case measure => simp [intOf]; omega
      · have hj' : decide ((0 : Int) < (j : Int)) = false := by simp; omega
        go_wp2_with fail
        refine (value_any w.heap.size co cap bs k' sd' wr hl (by omega) hC.out).mono ?_
        rintro e w5 ⟨⟨x, rfl⟩, ⟨k5, sd5, hk5, hC5, hg5⟩⟩
        have hO5 := hO.out.grew hg5 (by omega)
        have hB5 := hB.trans (hg5.below (Nat.le_refl _) (by omega))
        obtain ⟨qo, qc, rfl, hq0, hF⟩ := hO5.fresh
        have HF := hid (hF.wide (lo' := w.heap.size) (by omega) (Nat.le_refl _))
        have HQ := hid hq0
        clear hF hO hq0 hC5 hg5 hO5
        go_wp2
        exact bodyPost_ret (v := .tuple #[.slice qo ts.length qc, .int .i64 x]) (by simp [results, Try.results36, go_sem]) rfl ⟨⟨_, _, ts, _, rfl, by omega, HQ.out, HF.out⟩, hB5⟩
end Go.Proofs.Ytnjnnilmelmmgaa
