
/- The law's callees with their answers as variables. No conditions but those written. -/
import Derived.Test.YtimkadnnhfllnaaXm
import Derived.Test.YtimkadnnhfllnaaYc
import Derived.Test.YtimkadnnhfllnaaTh
import Derived.Test.YtimkadnnhfllnaaTr
import Derived.Test.YtimkadnnhfllnaaTw
namespace Go.Proofs.Ytimkadnnhfllnaa
open Go.RowKit

set_option maxHeartbeats 2000000 in
theorem has_is (n₀ : Nat) (ao : Option Addr) (cap : Nat) (zs : List Int) (n : Int) (w : World) (b : Bool) (hl : zs.length ≤ 1048576) (hz : kI.In n₀ w ao zs) (hb : hasB zs n = b) :
    Calls Try.prog 10 #[.slice ao zs.length cap, .int .i64 n] w fun e w' => e = .returned (.bool b) ∧ w' = w := by
  have HB : Hid (hasB zs n = b) := hb
  clear hb
  go_enter Try.func10, Try.ntmps10
  go_wp2
  go_loop [9] (fun i => ∃ k : Nat, k ≤ zs.length ∧ i = .int .i64 k ∧ Hid (∀ j, j < k → el zs j ≠ n)) (fun i => zs.length - (intOf i).toNat)
  case atStart => exact ⟨0, Nat.zero_le _, rfl, fun j hj => by omega⟩
  case round =>
    obtain ⟨k, hk, rfl, hno⟩ := hrel
    by_cases hlt : k < zs.length
    · obtain ⟨b, off, rfl, hb, hc⟩ := ints_at hz hlt
      have hck := hc k hlt
      clear hc hz
      obtain ⟨x, hx⟩ : ∃ x, x = el zs k := ⟨_, rfl⟩
      rw [← hx] at hck
      have HX : Hid (x = el zs k) := hx
      clear hx
      by_cases he : x = n
      · have he' : (x == n) = true := by simpa using he
        have HY : Hid (hasB zs n = true) := hasB_yes hlt (by rw [← HX.out]; exact he)
        clear he
        go_wp2
        go_ret
        exact ⟨ret_bool (by rw [← HB.out, HY.out]), rfl⟩
      · have he' : (x == n) = false := by simpa using he
        go_wp2
        go_round
        case rel => exact ⟨k + 1, by omega, by go_num, fun j hj => by
          rcases Nat.lt_succ_iff_lt_or_eq.1 hj with h | rfl
          · exact hno.out j h
          · rw [← HX.out]; exact he⟩
        case measure => simp [intOf]; omega
    · obtain rfl : k = zs.length := by omega
      have HN : Hid (hasB zs n = false) := hasB_no hno.out
      go_wp2
      go_ret
      exact ⟨ret_bool (by rw [← HB.out, HN.out]), rfl⟩
set_option maxHeartbeats 2000000 in
theorem sameInts_same (ao bo : Option Addr) (cap cap' : Nat) (zs : List Int) (w : World) (hl : zs.length ≤ 1048576) (hz : kI.In w.heap.size w ao zs) (hz' : kI.In w.heap.size w bo zs) :
    Calls Try.prog 7 #[.slice ao zs.length cap, .slice bo zs.length cap'] w fun e w' => e = .returned (.bool true) ∧ Below w.heap.size w w' := by
  have hne : ((zs.length : Int) != (zs.length : Int)) = false := by simp
  go_enter Try.func7, Try.ntmps7
  go_wp2
  go_loopw [13] (fun i wr => ∃ k : Nat, k ≤ zs.length ∧ i = .int .i64 k ∧ Below w.heap.size w wr) (fun i _ => zs.length - (intOf i).toNat)
  case atStart => exact ⟨0, Nat.zero_le _, rfl, Below.refl _ _⟩
  case round =>
    obtain ⟨k, hk, rfl, hnx⟩ := hrel
    by_cases hlt : k < zs.length
    · obtain ⟨b, off, rfl, hb, hc⟩ := ints_at hz hlt
      obtain ⟨b', off', rfl, hb', hc'⟩ := ints_at hz' hlt
      have hck := (hnx.cell (p := ⟨b, off + k, none⟩) hb).trans (hc k hlt)
      have hck' := (hnx.cell (p := ⟨b', off' + k, none⟩) hb').trans (hc' k hlt)
      clear hc hz hc' hz'
      obtain ⟨x, hx⟩ : ∃ x, x = el zs k := ⟨_, rfl⟩
      rw [← hx] at hck hck'
      clear hx
      have hxx : (x != x) = false := by simp
      go_wp2
      go_quiet (fail)
      go_wp2
      go_roundw
      case rel => exact ⟨k + 1, by omega, by go_num, below_draws hnx _⟩
      case measure => simp [intOf]; omega
    · obtain rfl : k = zs.length := by omega
      go_wp2
      go_ret
      exact ⟨rfl, hnx⟩
theorem implPub_as (sd0 : Int) (o : Option Addr) (c : Nat) (us : List LSub) (x : Int) (S : Int) (P : List PSub) (l : List Int) (cd : Int) (w : World) (hl : us.length ≤ 1048576) (hf : Fits us) (hz : DIn dSub w.heap.size w o us) (h : pubR sd0 (us.map valSub) x = (S, P, l, cd)) :
    Calls Try.prog 5 #[.agg #[.int .i64 sd0, .slice o us.length c], .int .i64 x] w fun e w' => (∃ o1 c1 u1 go gc, e = .returned (.tuple #[.agg #[.int .i64 S, .slice o1 (u1 : List LSub).length c1], .slice go l.length gc, .int .i64 cd]) ∧ u1.map valSub = P ∧ DIn dSub w'.heap.size w' o1 u1 ∧ kI.In w'.heap.size w' go l) ∧ Below w.heap.size w w' :=
  (implPubl_any sd0 o c us x w hl hf hz).mono fun e w' hh => by
    rw [h] at hh
    obtain ⟨⟨o1, c1, u1, go, gc, e, h2, h3, h4, _⟩, hb⟩ := hh
    exact ⟨⟨o1, c1, u1, go, gc, by rw [e, ← h2, List.length_map], h2, h3.in dSub_ok, h4.in⟩, hb⟩
theorem specPub_as (sd0 : Int) (o : Option Addr) (c : Nat) (us : List LSub) (x : Int) (S : Int) (P : List PSub) (l : List Int) (cd : Int) (w : World) (hl : us.length ≤ 1048576) (hf : Fits us) (hz : DIn dSub w.heap.size w o us) (h : pubR sd0 (us.map valSub) x = (S, P, l, cd)) :
    Calls Try.prog 6 #[.agg #[.int .i64 sd0, .slice o us.length c], .int .i64 x] w fun e w' => (∃ o1 c1 n1 go gc, e = .returned (.tuple #[.agg #[.int .i64 S, .slice o1 n1 c1], .slice go l.length gc, .int .i64 cd]) ∧ kI.In w'.heap.size w' go l) ∧ Below w.heap.size w w' :=
  (specPubl_any sd0 o c us x w hl hf hz).mono fun e w' hh => by
    rw [h] at hh
    obtain ⟨⟨o1, c1, u1, go, gc, e, h2, h3, h4, _⟩, hb⟩ := hh
    exact ⟨⟨o1, c1, _, go, gc, e, h4.in⟩, hb⟩
theorem implWait_as (sd0 : Int) (o : Option Addr) (c : Nat) (us : List LSub) (l : List Int) (b : Bool) (w : World) (hl : us.length ≤ 1048576) (hf : Fits us) (hz : DIn dSub w.heap.size w o us) (h : waitR sd0 (us.map valSub) = (l, b)) :
    Calls Try.prog 8 #[.agg #[.int .i64 sd0, .slice o us.length c]] w fun e w' => (∃ go gc, e = .returned (.tuple #[.slice go l.length gc, .bool b]) ∧ kI.In w'.heap.size w' go l) ∧ Below w.heap.size w w' :=
  (implWait_any sd0 o c us w hl hf hz).mono fun e w' hh => by
    rw [h] at hh
    obtain ⟨⟨go, gc, e, h4⟩, hb⟩ := hh
    exact ⟨⟨go, gc, e, h4.in⟩, hb⟩
theorem implHear_as (sd0 : Int) (o : Option Addr) (c : Nat) (us : List LSub) (id : Int) (S : Int) (P : List PSub) (x cd : Int) (w : World) (hl : us.length ≤ 1048576) (hf : Fits us) (hz : DIn dSub w.heap.size w o us) (h : hearR sd0 (us.map valSub) id = (S, P, x, cd)) :
    Calls Try.prog 11 #[.agg #[.int .i64 sd0, .slice o us.length c], .int .i64 id] w fun e w' => (∃ o1 c1 u1, e = .returned (.tuple #[.agg #[.int .i64 S, .slice o1 (u1 : List LSub).length c1], .int .i64 x, .int .i64 cd]) ∧ u1.map valSub = P ∧ DFr dSub w.heap.size w'.heap.size w' o1 c1 u1) ∧ Below w.heap.size w w' :=
  (implHear_any sd0 o c us id w hl hf hz).mono fun e w' hh => by
    rw [h] at hh
    obtain ⟨⟨o1, c1, u1, e, h2, h3⟩, hb⟩ := hh
    exact ⟨⟨o1, c1, u1, by rw [e, ← h2, List.length_map], h2, h3⟩, hb⟩
/-- A topic's hearers in memory. -/
def TI (W : World) (o : Option Addr) (us : List LSub) : Prop := DIn dSub W.heap.size W o us
theorem TI.later {W W' : World} {o : Option Addr} {us : List LSub} (h : TI W o us) (hb : Below W.heap.size W W') : TI W' o us := DIn.later dSub_ok h hb
theorem TI.at {W : World} {o : Option Addr} {us : List LSub} (h : TI W o us) {j : Nat} (hj : j < us.length) {nd kap dp : Int} {dr : Bool} {qo : Option Addr} {qc : Nat} {q : List Int} (he : el us j = (nd, kap, dr, dp, (qo, qc, q))) :
    ∃ b off, o = some ⟨b, off, none⟩ ∧ b < W.heap.size ∧ (W.cell? ⟨b, off + j * 5, none⟩ = some (.int .i64 nd) ∧ W.cell? ⟨b, off + j * 5 + 1, none⟩ = some (.int .i64 kap) ∧ W.cell? ⟨b, off + j * 5 + 2, none⟩ = some (.bool dr) ∧ W.cell? ⟨b, off + j * 5 + 3, none⟩ = some (.int .i64 dp) ∧ W.cell? ⟨b, off + j * 5 + 4, none⟩ = some (.slice qo q.length qc)) ∧ kI.In W.heap.size W qo q := by
  obtain ⟨b, off, e, hb, hc⟩ := hSub_at h.1 hj
  have h1 := hc j hj
  have h2 := h.2 j hj
  rw [he] at h1 h2
  exact ⟨b, off, e, hb, h1, h2⟩
/-- Hearers that can be read whatever becomes of the block a and of new ones. -/
def TZ (a : Nat) (W : World) (o : Option Addr) (us : List LSub) : Prop := ∀ W', W.heap.size ≤ W'.heap.size → (∀ k, k ≠ a → k < W.heap.size → W'.heap[k]? = W.heap[k]?) → DIn dSub W'.heap.size W' o us
theorem TZ.next {a : Nat} {W W' : World} {o : Option Addr} {us : List LSub} (h : TZ a W o us) (hs : W.heap.size ≤ W'.heap.size) (hk : ∀ k, k ≠ a → k < W.heap.size → W'.heap[k]? = W.heap[k]?) : TZ a W' o us :=
  fun V h1 h2 => h V (Nat.le_trans hs h1) fun k ha hk' => (h2 k ha (Nat.lt_of_lt_of_le hk' hs)).trans (hk k ha hk')
theorem TZ.later {a : Nat} {W W' : World} {o : Option Addr} {us : List LSub} (h : TZ a W o us) (hb : Below W.heap.size W W') : TZ a W' o us := h.next hb.size fun k _ hk => hb.block k hk
theorem TZ.in {a : Nat} {W : World} {o : Option Addr} {us : List LSub} (h : TZ a W o us) : DIn dSub W.heap.size W o us := h W (Nat.le_refl _) fun _ _ _ => rfl
theorem TZ.set {a : Nat} {W : World} {o : Option Addr} {us : List LSub} (h : TZ a W o us) (i : Nat) (u : Value) : TZ a (W.setCell ⟨a, i, none⟩ u) o us := h.next (by simp) fun k ha _ => Below.heap_setCell W _ u k ha
theorem TZ.of_fr {a lo hi : Nat} {W : World} {o : Option Addr} {c : Nat} {us : List LSub} (h : DFr dSub lo hi W o c us) (ha : a < lo ∨ hi ≤ a) : TZ a W o us := fun V _ h2 => (DFr.keep dSub_ok h (W' := V) fun k k1 k2 k3 => h2 k (by omega) k3).in dSub_ok
theorem TZ.of_in {a : Nat} {W : World} {o : Option Addr} {us : List LSub} (h : DIn dSub W.heap.size W o us) (ha : W.heap.size ≤ a) : TZ a W o us := fun V h1 h2 => by
  refine ⟨?_, fun j hj => ?_⟩
  · rcases h.1 with e | ⟨b, off, e, hb, hc⟩
    · exact .inl e
    · exact .inr ⟨b, off, e, Nat.lt_of_lt_of_le hb h1, fun j hj i hi => by rw [World.cell?_of_block (w := W) (h2 b (by omega) hb)]; exact hc j hj i hi⟩
  · rcases h.2 j hj with e | ⟨b, off, e, hb, hc⟩
    · exact .inl e
    · exact .inr ⟨b, off, e, Nat.lt_of_lt_of_le hb h1, fun j hj i hi => by rw [World.cell?_of_block (w := W) (h2 b (by omega) hb)]; exact hc j hj i hi⟩
theorem in_tailQ {n : Nat} {W : World} {g : Nat} {z : Int} {r : List Int} (h : kI.In n W (some ⟨g, 0, none⟩) (z :: r)) : kI.In n W (some ⟨g, 1, none⟩) r := by
  obtain ⟨b, off, e, hb, hc⟩ := ints_at h (show 0 < (z :: r).length by simp)
  cases e
  refine .inr ⟨g, 1, rfl, hb, fun j hj i hi => ?_⟩
  have hi' : i < 1 := hi
  obtain rfl : i = 0 := by omega
  have h1 := hc (j + 1) (by simpa using hj)
  have e1 : el (z :: r) (j + 1) = el r j := by simp [el]
  rw [e1, show 0 + (j + 1) = 1 + (j * 1 + 0) by omega] at h1
  exact h1
theorem set_el {α : Type} [Inhabited α] {P : List α} {j : Nat} (h : j < P.length) : P.set j (el P j) = P := by simp [el, h]
theorem hear_set {S : Int} {P : List PSub} {j : Nat} (hj : j < P.length) {nd kap dp : Int} {dr : Bool} {q : List Int} {i : Nat} (hi : i < q.length) (hg : topicB S (P.set j (nd, kap, dr, dp, q.drop i)) = true) :
    hearR S (P.set j (nd, kap, dr, dp, q.drop i)) nd = (S, P.set j (nd, kap, dr, dp, q.drop (i + 1)), el q i, 0) ∧ topicB S (P.set j (nd, kap, dr, dp, q.drop (i + 1))) = true := by
  have hl : j < (P.set j ((nd, kap, dr, dp, q.drop i) : PSub)).length := by simpa using hj
  have he : el (P.set j ((nd, kap, dr, dp, q.drop i) : PSub)) j = (nd, kap, dr, dp, q.drop i) := by simp [el, hj]
  have hd : q.drop i = el q i :: q.drop (i + 1) := by rw [List.drop_eq_getElem_cons hi]; simp [el, hi]
  obtain ⟨h1, h2, _⟩ := hear_step (x := el q i) (r := q.drop (i + 1)) hg hl (by rw [he]; exact hd)
  rw [he] at h1 h2
  dsimp only at h1 h2
  rw [List.set_set] at h1 h2
  exact ⟨h1, h2⟩
theorem pub_q {sd : Int} {ps : List PSub} {v : Int} {S : Int} {P : List PSub} {l : List Int} (h : pubR sd ps v = (S, P, l, 0)) {i : Nat} (hi : i < ps.length) : (fullB (el ps i) = true → (el P i).2.2.2.2 = ((el ps i).2.2.2.2 ++ [v]).tail) ∧ (fullB (el ps i) = false → (el P i).2.2.2.2 = (el ps i).2.2.2.2 ++ [v]) := by
  have h4 := ((pub_all h).2.2.2.2 i hi).2.2.2
  exact ⟨fun e => by rw [h4, if_pos e], fun e => by rw [h4, if_neg (by rw [e]; simp)]⟩
theorem pub_cap {sd : Int} {ps : List PSub} {v : Int} {S : Int} {P : List PSub} {l : List Int} (h : pubR sd ps v = (S, P, l, 0)) : ∀ i, i < ps.length → fullB (el ps i) = true → (el ps i).2.2.2.2 ≠ [] := by
  intro i hi hf e
  unfold pubR at h
  by_cases hg : topicB sd ps = true
  case neg => rw [if_neg hg] at h; simp at h
  have := (sub_el hg hi).1
  unfold fullB at hf
  rw [e] at hf
  simp at hf
  omega
theorem fits_map {us : List LSub} {ps : List PSub} (h : us.map valSub = ps) (hn : Neat ps) : Fits us := (ln_of h hn).fits
theorem pub_full {sd : Int} {ps : List PSub} {v : Int} {S : Int} {P : List PSub} {l : List Int} (h : pubR sd ps v = (S, P, l, 3)) : S = sd ∧ waitR sd ps = (l, true) ∧ l.length ≤ 10 := by
  unfold pubR at h
  by_cases hg : topicB sd ps = true
  case neg => rw [if_neg hg] at h; simp at h
  rw [if_pos hg] at h
  by_cases hs : sd = 1000000
  · rw [if_pos hs] at h; simp at h
  rw [if_neg hs] at h
  by_cases hw : (waitI ps).length = 0
  · rw [if_pos hw] at h; simp at h
  rw [if_neg hw] at h
  simp only [Prod.mk.injEq, and_true] at h
  obtain ⟨rfl, rfl, rfl⟩ := h
  refine ⟨rfl, by unfold waitR; rw [if_pos hg], ?_⟩
  have h1 : (waitI ps).length ≤ ps.length := by unfold waitI; rw [List.length_map]; exact List.length_filter_le _ _
  exact Nat.le_trans h1 (topicB_good hg).2.1
theorem pub_ids {sd : Int} {ps : List PSub} {v : Int} : (pubR sd ps v).2.2.1.length ≤ ps.length := by
  unfold pubR
  repeat' split
  all_goals first | exact losI_le ps | (simp; done) | (unfold waitI; simp only [List.length_map]; exact List.length_filter_le _ _)
end Go.Proofs.Ytimkadnnhfllnaa
