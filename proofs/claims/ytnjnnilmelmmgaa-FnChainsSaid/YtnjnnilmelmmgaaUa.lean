
/- SplitTurn on both sides. No conditions but those written. -/
import Derived.Test.YtnjnnilmelmmgaaNd
namespace Go.Proofs.Ytnjnnilmelmmgaa
open Go.RowKit

/-- One number is dealt; many are. -/
def dealStep (many : Nat) (s : List (List Int) × Nat) (x : Int) : List (List Int) × Nat := (s.1.set s.2 (el s.1 s.2 ++ [x]), (s.2 + 1) % many)
def deal (many t : Nat) (v : List Int) : List (List Int) × Nat := v.foldl (dealStep many) (List.replicate many [], t)
theorem deal_take {many t : Nat} {v : List Int} {k : Nat} (h : k < v.length) : deal many t (v.take (k + 1)) = dealStep many (deal many t (v.take k)) (el v k) := by
  unfold deal
  rw [take_succ_el h, List.foldl_append]; rfl
theorem deal_inv (many : Nat) (h0 : 0 < many) (v : List Int) : ∀ s : List (List Int) × Nat, s.1.length = many → s.2 < many → (v.foldl (dealStep many) s).1.length = many ∧ (v.foldl (dealStep many) s).2 < many := by
  induction v with
  | nil => intro s h1 h2; exact ⟨h1, h2⟩
  | cons x r ih => intro s h1 h2; exact ih _ (by simp [dealStep, h1]) (Nat.mod_lt _ h0)
theorem deal_len {many t : Nat} (ht : t < many) (v : List Int) : (deal many t v).1.length = many := (deal_inv many (by omega) v _ (by simp) ht).1
theorem deal_lt {many t : Nat} (ht : t < many) (v : List Int) : (deal many t v).2 < many := (deal_inv many (by omega) v _ (by simp) ht).2
theorem tot_set : ∀ (ls : List (List Int)) (k : Nat) (x : Int), k < ls.length → tot (ls.set k (el ls k ++ [x])) = tot ls + 1
  | [], k, x, h => by simp at h
  | l :: r, 0, x, _ => by simp [tot, el]; omega
  | l :: r, k + 1, x, h => by
    have := tot_set r k x (by simpa using h)
    rw [el_cons, List.set_cons_succ]
    simp only [tot, List.map_cons, List.sum_cons] at this ⊢
    omega
theorem deal_tot {many t : Nat} (ht : t < many) (v : List Int) : ∀ k, k ≤ v.length → tot (deal many t (v.take k)).1 = k := by
  intro k
  induction k with
  | zero => intro _; simp [deal, tot]
  | succ k ih =>
    intro hk
    rw [deal_take (by omega)]
    simp only [dealStep]
    rw [tot_set _ _ _ (by rw [deal_len ht]; exact deal_lt ht _), ih (by omega)]
def spOk (v : List Int) (many turn : Int) : Bool := decide (v.length ≤ 100) && (decide (1 ≤ many) && decide (many ≤ 10)) && (decide (0 ≤ turn) && decide (turn < many))
def spR (v : List Int) (many turn : Int) : List (List Int) × Int × Bool :=
  if spOk v many turn then ((deal many.toNat turn.toNat v).1, ((deal many.toNat turn.toNat v).2 : Int), true) else ([], 0, false)
theorem spR_no {v : List Int} {many turn : Int} (h : spOk v many turn = false) : spR v many turn = ([], 0, false) := by simp [spR, h]
theorem spR_yes {v : List Int} {n t : Nat} (h : spOk v n t = true) : spR v n t = ((deal n t v).1, ((deal n t v).2 : Int), true) := by simp [spR, h]
theorem spOk_all {v : List Int} {many turn : Int} (h : spOk v many turn = true) : v.length ≤ 100 ∧ 1 ≤ many ∧ many ≤ 10 ∧ 0 ≤ turn ∧ turn < many := by
  simp [spOk, and_assoc] at h; exact h
theorem spOk_mk {v : List Int} {many turn : Int} (h : v.length ≤ 100 ∧ 1 ≤ many ∧ many ≤ 10 ∧ 0 ≤ turn ∧ turn < many) : spOk v many turn = true := by
  simp [spOk, and_assoc]; exact h
theorem spOk_no {v : List Int} {many turn : Int} (h : ¬ (v.length ≤ 100 ∧ 1 ≤ many ∧ many ≤ 10 ∧ 0 ≤ turn ∧ turn < many)) : spOk v many turn = false := by
  rcases hc : spOk v many turn with _ | _
  · rfl
  · exact absurd (spOk_all hc) h
theorem spR_tot (v : List Int) (many turn : Int) : (spR v many turn).1.length ≤ 10 ∧ tot (spR v many turn).1 ≤ 100 := by
  rcases h : spOk v many turn with _ | _
  · rw [spR_no h]; simp [tot]
  · have h1 := spOk_all h
    obtain ⟨n, rfl⟩ : ∃ n : Nat, many = n := ⟨many.toNat, by omega⟩
    obtain ⟨t, rfl⟩ : ∃ t : Nat, turn = t := ⟨turn.toNat, by omega⟩
    rw [spR_yes h]
    have h2 := deal_tot (many := n) (t := t) (by omega) v v.length (Nat.le_refl _)
    rw [List.take_length] at h2
    dsimp only
    rw [deal_len (by omega), h2]
    omega
/-- Rows of ints of their own, an int and a bool are answered. -/
def AnsR (w : World) (r : List (List Int) × Int × Bool) (e : Ending) (w' : World) : Prop :=
  (∃ o c hs, e = .returned (.tuple #[.slice o r.1.length c, .int .i64 r.2.1, .bool r.2.2]) ∧ FrRR w.heap.size w'.heap.size w' o c hs r.1) ∧ Below w.heap.size w w'
theorem ansR_no {w : World} : AnsR w ([], 0, false) (.returned (.tuple #[.slice none 0 0, .int .i64 0, .bool false])) w := ⟨⟨_, _, _, rfl, FrRR.nil _ _ _ _ _⟩, Below.refl _ _⟩
set_option maxHeartbeats 8000000 in
theorem implSplit_any (ao : Option Addr) (cap : Nat) (v : List Int) (many turn : Int) (w : World) (hl : v.length ≤ 1048576) (hz : kI.In w.heap.size w ao v) :
    Calls Try.prog 28 #[.slice ao v.length cap, .int .i64 many, .int .i64 turn] w (AnsR w (spR v many turn)) := by
  by_cases h0 : v.length ≤ 100
  case neg =>
    rw [spR_no (spOk_no (by omega))]
    have e0 : decide ((100 : Int) < (v.length : Int)) = true := by simp; omega
    clear h0
    go_enter Try.func28, Try.ntmps28
    go_wp2
    exact bodyPost_ret (v := .tuple #[.slice none 0 0, .int .i64 0, .bool false]) (by simp [results, Try.results28, go_sem]) rfl ansR_no
  have e0 : decide ((100 : Int) < (v.length : Int)) = false := by simp; omega
  by_cases h1 : 1 ≤ many
  case neg =>
    rw [spR_no (spOk_no (by omega))]
    have e1 : decide (many < 1) = true := by simp; omega
    clear h1
    go_enter Try.func28, Try.ntmps28
    go_wp2
    exact bodyPost_ret (v := .tuple #[.slice none 0 0, .int .i64 0, .bool false]) (by simp [results, Try.results28, go_sem]) rfl ansR_no
  have e1 : decide (many < 1) = false := by simp; omega
  by_cases h2 : many ≤ 10
  case neg =>
    rw [spR_no (spOk_no (by omega))]
    have e2 : decide (10 < many) = true := by simp; omega
    clear h2
    go_enter Try.func28, Try.ntmps28
    go_wp2
    exact bodyPost_ret (v := .tuple #[.slice none 0 0, .int .i64 0, .bool false]) (by simp [results, Try.results28, go_sem]) rfl ansR_no
  have e2 : decide (10 < many) = false := by simp; omega
  by_cases h3 : 0 ≤ turn
  case neg =>
    rw [spR_no (spOk_no (by omega))]
    have e3 : decide (turn < 0) = true := by simp; omega
    clear h3
    go_enter Try.func28, Try.ntmps28
    go_wp2
    exact bodyPost_ret (v := .tuple #[.slice none 0 0, .int .i64 0, .bool false]) (by simp [results, Try.results28, go_sem]) rfl ansR_no
  have e3 : decide (turn < 0) = false := by simp; omega
  by_cases h4 : turn < many
  case neg =>
    rw [spR_no (spOk_no (by omega))]
    have e4 : decide (many ≤ turn) = true := by simp; omega
    clear h4
    go_enter Try.func28, Try.ntmps28
    go_wp2
    exact bodyPost_ret (v := .tuple #[.slice none 0 0, .int .i64 0, .bool false]) (by simp [results, Try.results28, go_sem]) rfl ansR_no
  have e4 : decide (many ≤ turn) = false := by simp; omega
  have hc : v.length ≤ 100 ∧ 1 ≤ many ∧ many ≤ 10 ∧ 0 ≤ turn ∧ turn < many := ⟨h0, h1, h2, h3, h4⟩
  clear h0 h1 h2 h3 h4
  go_enter Try.func28, Try.ntmps28
  obtain ⟨n, rfl⟩ : ∃ n : Nat, many = n := ⟨many.toNat, by omega⟩
  obtain ⟨t, rfl⟩ : ∃ t : Nat, turn = t := ⟨turn.toNat, by omega⟩
  have hn : n ≤ 10 ∧ 1 ≤ n ∧ t < n := by omega
  have hv : v.length ≤ 100 := hc.1
  have HN := hid (spR_yes (spOk_mk hc))
  clear hc
  obtain ⟨i0, hi, hz0, hz1, hz2⟩ := info_parts Try.info28
  go_wp2_with (at_make; refine wpList_make_full _ rfl _ _ 43 rfl w.heap.size 28 i0 (.slice none 0 0) 1 Try.underlying43 hi hz0 hz1 .i64 .i64 _ _ n rfl rfl rfl rfl (by rw [hz2]; omega) (by unfold maxLen; omega) (Nat.le_refl _) ?_; intro w1 hown hgrow; have hB1 : Below w.heap.size w w1 := (Below.refl _ _).grown hgrow (Nat.le_refl _) (fun k e => by cases e); have hH0 := hid (hands_made hown); clear hown hgrow)
  go_loopw [2, 36] (fun u i wr => ∃ (k : Nat) (xs : List Value), k ≤ v.length ∧ i = .int .i64 k ∧ u = .int .i64 ((deal n t (v.take k)).2 : Int) ∧ Hid (Hands w.heap.size wr xs (deal n t (v.take k)).1) ∧ Below w.heap.size w wr) (fun _ i _ => v.length - (intOf i).toNat)
  case atStart =>
    obtain ⟨xs, hxs⟩ := hH0.out
    exact ⟨0, xs, Nat.zero_le _, rfl, rfl, hxs, hB1⟩
  case round =>
    obtain ⟨k, xs, hk, rfl, rfl, hH, hB⟩ := hrel
    by_cases hlt : k < v.length
    · obtain ⟨bb, off, rfl, hbb, hc⟩ := ints_at hz hlt
      have d1 := (hB.cell (p := ⟨bb, off + k, none⟩) hbb).trans (hc k hlt)
      obtain ⟨x, hx⟩ : ∃ x, x = el v k := ⟨_, rfl⟩
      rw [← hx] at d1
      have hdl := deal_len (many := n) (t := t) hn.2.2 (v.take k)
      have hdt := deal_lt (many := n) (t := t) hn.2.2 (v.take k)
      have htt := deal_tot (many := n) (t := t) hn.2.2 v k hk
      have HD : Hid (deal n t (v.take (k + 1)) = dealStep n (deal n t (v.take k)) x) := by rw [Hid, hx]; exact deal_take hlt
      clear hx hc
      generalize hs : deal n t (v.take k) = s at hH hdl hdt htt HD
      clear hs
      obtain ⟨ls, u⟩ := s
      dsimp only at hH hdl hdt htt HD ⊢
      have hul : u < ls.length := by omega
      have hrem : ((u : Int) + 1).tmod (n : Int) = (((u + 1) % n : Nat) : Int) := by rw [Int.tmod_eq_emod_of_nonneg (by omega)]; push_cast; rfl
      obtain ⟨o, c, hsl, h0, hF⟩ := hH.out.slice hul
      have hxu : u < xs.length := by rw [hH.out.len]; exact hul
      have hcell : wr.cell? ⟨w.heap.size, u, none⟩ = some (.slice o (el ls u).length c) := by
        rw [← hsl]
        exact (hH.out.head.cellAt u (by omega)).trans (by simp [el, hxu])
      have hll : (el ls u).length + 1 ≤ 4194304 := by have := tot_el (ls := ls) (k := u) hul; omega
      have hH2 := hid (hH.out.later (below1 wr (.cells #[.int .i64 x] 3)))
      have HO : Hid (kI.Own (w.heap.size + 1) (wr.alloc (.cells #[.int .i64 x] 3)) (.slice o (el ls u).length c) (el ls u)) := by rw [Hid, ← hsl]; exact hH2.out.row u hul
      have HI : Hid (kI.In (wr.heap.size + 1) (wr.alloc (.cells #[.int .i64 x] 3)) (some ⟨wr.heap.size, 0, none⟩) [x]) := int_one (by omega) (by simp)
      have HSL := hid hsl
      have hws := hH.out.size
      have hBa := Below.allocS hB (.cells #[.int .i64 x] 3)
      clear hF h0 hsl hH hdl htt
      simp only [dealStep] at HD
      generalize hy : el ls u = y at hcell hll HO HSL HD
      clear hy
      obtain ⟨z, hz⟩ : ∃ z, z = y ++ [x] := ⟨_, rfl⟩
      rw [← hz] at HD
      have HZ := hid hz
      clear hz
      go_wp2_with (at_builtin; refine Kind.appN kI_ok (wr.alloc (.cells #[.int .i64 x] 3)) rfl (.tmp 45) (.tmp 47) rfl (w.heap.size + 1) (.slice o y.length c) y rfl HO.out (by simp; omega) (some ⟨wr.heap.size, 0, none⟩) [x] 1 1 rfl rfl (by simp) _ HI.out hll ?_; intro v' w' hO' hB' hG' hn'; rw [← HZ.out] at hO'; obtain ⟨o', c', rfl, _, _⟩ := hO'.fresh; have hB2 : Below w.heap.size w w' := hBa.trans (hB'.mono (by omega)); have HH := hid (hH2.out.put (v := .slice o' z.length c') (x := z) hul hO' (by rw [HSL.out]; exact hG') (by rw [HSL.out]; exact hn')); have hmid := hH2.out.mid hul (by rw [HSL.out]; exact hG'); have hcw : w'.cell? ⟨w.heap.size, u, none⟩ = some (.slice o y.length c) := (by rw [← HSL.out]; exact (hmid.cellAt u (by omega)).trans (by simp [el, hxu])); have hfw : w'.frozen? ⟨w.heap.size, u, none⟩ = false := hmid.frozenAt u; clear hmid; clear hO' hB' hG' hn')
      go_roundw
      case rel => exact ⟨k + 1, _, by omega, by go_num, by rw [HD.out]; rfl, by rw [HD.out]; exact HH, hB2.setCell (Nat.le_refl _) _⟩
      case measure => simp [intOf]; omega
    · obtain rfl : k = v.length := by omega
      rw [List.take_length] at hH ⊢
      have hdl := deal_len (many := n) (t := t) hn.2.2 v
      have HF := hid hH.out.fr
      rw [hdl] at HF
      have HDL := hid hdl
      clear hH hdl
      go_wp2
      refine bodyPost_ret (v := .tuple #[.slice (some ⟨w.heap.size, 0, none⟩) n n, .int .i64 ((deal n t v).2 : Int), .bool true]) (by simp [results, Try.results28, go_sem]) rfl ?_
      rw [HN.out]
      exact ⟨⟨_, _, _, by dsimp only; rw [HDL.out], HF.out⟩, hB⟩
set_option maxHeartbeats 8000000 in
theorem specSplit_any (ao : Option Addr) (cap : Nat) (v : List Int) (many turn : Int) (w : World) (hl : v.length ≤ 1048576) (hz : kI.In w.heap.size w ao v) :
    Calls Try.prog 26 #[.slice ao v.length cap, .int .i64 many, .int .i64 turn] w (AnsR w (spR v many turn)) := by
  by_cases h0 : v.length ≤ 100
  case neg =>
    rw [spR_no (spOk_no (by omega))]
    have e0 : decide ((100 : Int) < (v.length : Int)) = true := by simp; omega
    clear h0
    go_enter Try.func26, Try.ntmps26
    go_wp2
    exact bodyPost_ret (v := .tuple #[.slice none 0 0, .int .i64 0, .bool false]) (by simp [results, Try.results26, go_sem]) rfl ansR_no
  have e0 : decide ((100 : Int) < (v.length : Int)) = false := by simp; omega
  rcases h1 : (decide (1 ≤ many) && decide (many ≤ 10)) with _ | _
  · rw [spR_no (spOk_no (by simp at h1; omega))]
    have H1 := hid h1
    clear h0 h1
    go_enter Try.func26, Try.ntmps26
    go_wp2_with fail
    refine (l1In_is many 1 10 _ _ H1.out).mono ?_
    rintro e w1 ⟨rfl, hw1⟩
    rw [hw1]; clear hw1 w1
    go_wp2
    exact bodyPost_ret (v := .tuple #[.slice none 0 0, .int .i64 0, .bool false]) (by simp [results, Try.results26, go_sem]) rfl ansR_no
  have H1 := hid h1
  have hm : 1 ≤ many ∧ many ≤ 10 := by simpa using h1
  clear h1
  rcases h2 : (decide (0 ≤ turn) && decide (turn ≤ many - 1)) with _ | _
  · rw [spR_no (spOk_no (by simp at h2; omega))]
    have H2 := hid h2
    clear h0 h2
    go_enter Try.func26, Try.ntmps26
    go_wp2_with fail
    refine (l1In_is many 1 10 _ _ H1.out).mono ?_
    rintro e w1 ⟨rfl, hw1⟩
    rw [hw1]; clear hw1 w1
    go_wp2_with fail
    refine (l1In_is turn 0 (many - 1) _ _ H2.out).mono ?_
    rintro e w1 ⟨rfl, hw1⟩
    rw [hw1]; clear hw1 w1
    go_wp2
    exact bodyPost_ret (v := .tuple #[.slice none 0 0, .int .i64 0, .bool false]) (by simp [results, Try.results26, go_sem]) rfl ansR_no
  have H2 := hid h2
  have hc : v.length ≤ 100 ∧ 1 ≤ many ∧ many ≤ 10 ∧ 0 ≤ turn ∧ turn < many := by simp at h2; omega
  clear h0 h2 hm
  go_enter Try.func26, Try.ntmps26
  obtain ⟨n, rfl⟩ : ∃ n : Nat, many = n := ⟨many.toNat, by omega⟩
  obtain ⟨t, rfl⟩ : ∃ t : Nat, turn = t := ⟨turn.toNat, by omega⟩
  have hn : n ≤ 10 ∧ 1 ≤ n ∧ t < n := by omega
  have hv : v.length ≤ 100 := hc.1
  have HN := hid (spR_yes (spOk_mk hc))
  clear hc
  obtain ⟨i0, hi, hz0, hz1, hz2⟩ := info_parts Try.info28
  go_wp2_with fail
  refine (l1In_is n 1 10 _ _ H1.out).mono ?_
  rintro e w1 ⟨rfl, hw1⟩
  rw [hw1]; clear hw1 w1
  go_wp2_with fail
  refine (l1In_is t 0 (n - 1) _ _ H2.out).mono ?_
  rintro e w1 ⟨rfl, hw1⟩
  rw [hw1]; clear hw1 w1
  go_wp2_with (at_make; refine wpList_make_full _ rfl _ _ 43 rfl w.heap.size 28 i0 (.slice none 0 0) 1 Try.underlying43 hi hz0 hz1 .i64 .i64 _ _ n rfl rfl rfl rfl (by rw [hz2]; omega) (by unfold maxLen; omega) (Nat.le_refl _) ?_; intro w1 hown hgrow; have hB1 : Below w.heap.size w w1 := (Below.refl _ _).grown hgrow (Nat.le_refl _) (fun k e => by cases e); have hH0 := hid (hands_made hown); clear hown hgrow)
  go_loopw [2, 31] (fun u i wr => ∃ (k : Nat) (xs : List Value), k ≤ v.length ∧ i = .int .i64 k ∧ u = .int .i64 ((deal n t (v.take k)).2 : Int) ∧ Hid (Hands w.heap.size wr xs (deal n t (v.take k)).1) ∧ Below w.heap.size w wr) (fun _ i _ => v.length - (intOf i).toNat)
  case atStart =>
    obtain ⟨xs, hxs⟩ := hH0.out
    exact ⟨0, xs, Nat.zero_le _, rfl, rfl, hxs, hB1⟩
  case round =>
    obtain ⟨k, xs, hk, rfl, rfl, hH, hB⟩ := hrel
    by_cases hlt : k < v.length
    · obtain ⟨bb, off, rfl, hbb, hc⟩ := ints_at hz hlt
      have d1 := (hB.cell (p := ⟨bb, off + k, none⟩) hbb).trans (hc k hlt)
      obtain ⟨x, hx⟩ : ∃ x, x = el v k := ⟨_, rfl⟩
      rw [← hx] at d1
      have hdl := deal_len (many := n) (t := t) hn.2.2 (v.take k)
      have hdt := deal_lt (many := n) (t := t) hn.2.2 (v.take k)
      have htt := deal_tot (many := n) (t := t) hn.2.2 v k hk
      have HD : Hid (deal n t (v.take (k + 1)) = dealStep n (deal n t (v.take k)) x) := by rw [Hid, hx]; exact deal_take hlt
      clear hx hc
      generalize hs : deal n t (v.take k) = s at hH hdl hdt htt HD
      clear hs
      obtain ⟨ls, u⟩ := s
      dsimp only at hH hdl hdt htt HD ⊢
      have hul : u < ls.length := by omega
      have hrem : ((u : Int) + 1).tmod (n : Int) = (((u + 1) % n : Nat) : Int) := by rw [Int.tmod_eq_emod_of_nonneg (by omega)]; push_cast; rfl
      obtain ⟨o, c, hsl, h0, hF⟩ := hH.out.slice hul
      have hxu : u < xs.length := by rw [hH.out.len]; exact hul
      have hcell : wr.cell? ⟨w.heap.size, u, none⟩ = some (.slice o (el ls u).length c) := by
        rw [← hsl]
        exact (hH.out.head.cellAt u (by omega)).trans (by simp [el, hxu])
      have hll : (el ls u).length + 1 ≤ 4194304 := by have := tot_el (ls := ls) (k := u) hul; omega
      have hH2 := hid (hH.out.later (below1 wr (.cells #[.int .i64 x] 3)))
      have HO : Hid (kI.Own (w.heap.size + 1) (wr.alloc (.cells #[.int .i64 x] 3)) (.slice o (el ls u).length c) (el ls u)) := by rw [Hid, ← hsl]; exact hH2.out.row u hul
      have HI : Hid (kI.In (wr.heap.size + 1) (wr.alloc (.cells #[.int .i64 x] 3)) (some ⟨wr.heap.size, 0, none⟩) [x]) := int_one (by omega) (by simp)
      have HSL := hid hsl
      have hws := hH.out.size
      have hBa := Below.allocS hB (.cells #[.int .i64 x] 3)
      clear hF h0 hsl hH hdl htt
      simp only [dealStep] at HD
      generalize hy : el ls u = y at hcell hll HO HSL HD
      clear hy
      obtain ⟨z, hz⟩ : ∃ z, z = y ++ [x] := ⟨_, rfl⟩
      rw [← hz] at HD
      have HZ := hid hz
      clear hz
      go_wp2_with (at_builtin; refine Kind.appN kI_ok (wr.alloc (.cells #[.int .i64 x] 3)) rfl (.tmp 40) (.tmp 42) rfl (w.heap.size + 1) (.slice o y.length c) y rfl HO.out (by simp; omega) (some ⟨wr.heap.size, 0, none⟩) [x] 1 1 rfl rfl (by simp) _ HI.out hll ?_; intro v' w' hO' hB' hG' hn'; rw [← HZ.out] at hO'; obtain ⟨o', c', rfl, _, _⟩ := hO'.fresh; have hB2 : Below w.heap.size w w' := hBa.trans (hB'.mono (by omega)); have HH := hid (hH2.out.put (v := .slice o' z.length c') (x := z) hul hO' (by rw [HSL.out]; exact hG') (by rw [HSL.out]; exact hn')); have hmid := hH2.out.mid hul (by rw [HSL.out]; exact hG'); have hcw : w'.cell? ⟨w.heap.size, u, none⟩ = some (.slice o y.length c) := (by rw [← HSL.out]; exact (hmid.cellAt u (by omega)).trans (by simp [el, hxu])); have hfw : w'.frozen? ⟨w.heap.size, u, none⟩ = false := hmid.frozenAt u; clear hmid; clear hO' hB' hG' hn')
      go_roundw
      case rel => exact ⟨k + 1, _, by omega, by go_num, by rw [HD.out]; rfl, by rw [HD.out]; exact HH, hB2.setCell (Nat.le_refl _) _⟩
      case measure => simp [intOf]; omega
    · obtain rfl : k = v.length := by omega
      rw [List.take_length] at hH ⊢
      have hdl := deal_len (many := n) (t := t) hn.2.2 v
      have HF := hid hH.out.fr
      rw [hdl] at HF
      have HDL := hid hdl
      clear hH hdl
      go_wp2
      refine bodyPost_ret (v := .tuple #[.slice (some ⟨w.heap.size, 0, none⟩) n n, .int .i64 ((deal n t v).2 : Int), .bool true]) (by simp [results, Try.results26, go_sem]) rfl ?_
      rw [HN.out]
      exact ⟨⟨_, _, _, by dsimp only; rw [HDL.out], HF.out⟩, hB⟩
end Go.Proofs.Ytnjnnilmelmmgaa
