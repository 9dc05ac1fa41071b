
/- The walk of the law of chains: it returns true. No conditions but those written. -/
import Derived.Test.YtnjnnilmelmmgaaYe
import Derived.Test.YtnjnnilmelmmgaaTd
import Derived.Test.YtnjnnilmelmmgaaVd
namespace Go.Proofs.Ytnjnnilmelmmgaa
open Go.RowKit

theorem kG_drop {n : Nat} {W : World} {g c k : Nat} {ts : List (Int × Int × Int)} (h : kG.In n W (some ⟨g, 0, none⟩) ts) (hc : ts.length ≤ c) : kG.In n W (some (if c = k then ⟨g, 0, none⟩ else ⟨g, k * 3, none⟩)) (ts.drop k) := by
  by_cases e : c = k
  · exact .inl (List.drop_eq_nil_of_le (by omega))
  · rw [if_neg e]
    have := h.drop k
    simpa [kG] using this
theorem chR_len3 (l : List (Int × Int × Int)) (v : Int) : (chR l v).1.length ≤ 3 ^ l.length := by
  rcases h : chGood l with _ | _
  · rw [chR_no1 h]; simp
  · rcases hv : valB v with _ | _
    · rw [chR_no2 hv]; simp
    · rcases hc : chainL l [v] with _ | x
      · rw [chR_fail h hv hc]; simp
      · rw [chR_some h hv hc]
        have := chain_len l [v] x (chGood_all h).2 hc
        simpa using this
theorem chR_short {l : List (Int × Int × Int)} {v : Int} (h : (chR l v).2.2 = true) : l.length ≤ 8 := by
  rcases hc : chGood l with _ | _
  · rw [chR_no1 hc] at h; cases h
  · exact (chGood_all hc).1
theorem pieceO_len3 (l : List (Int × Int × Int)) (xs : List Int) : (pieceO l xs).length ≤ 3 ^ l.length * xs.length := by
  induction xs with
  | nil => simp [pieceO]
  | cons x r ih =>
    have h1 := chR_len3 l x
    simp only [pieceO, List.flatMap_cons, List.length_append, List.length_cons] at ih ⊢
    rw [Nat.mul_add, Nat.mul_one]; omega
theorem piece_small {l : List (Int × Int × Int)} (h : l.length ≤ 8) {k : Nat} (hk : k ≤ l.length) {u : List Int} (hu : u.length ≤ 3 ^ k) (j : Nat) : (pieceO (l.drop k) (u.take j)).length ≤ 6561 := by
  have h1 := pieceO_len3 (l.drop k) (u.take j)
  have h2 : (u.take j).length ≤ 3 ^ k := by simp; omega
  have h3 : 3 ^ (l.drop k).length * (u.take j).length ≤ 3 ^ (l.drop k).length * 3 ^ k := Nat.mul_le_mul_left _ h2
  rw [← Nat.pow_add] at h3
  have h4 : (l.drop k).length + k = l.length := by simp; omega
  rw [h4] at h3
  have := pow3 h
  omega
/-- What is held of the rest of the law. -/
theorem spR_true {xs : List Int} {m t : Int} {r0 : List (List Int)} {r1 : Int} (h : spR xs m t = (r0, r1, true)) : mgOk r0 = true ∧ (mg r0 []).length = xs.length ∧ ∀ x, cnt x (mg r0 []) = cnt x xs := by
  have htt := spR_tot xs m t
  rcases hk : spOk xs m t with _ | _
  · rw [spR_no hk] at h; simp at h
  · have h1 := spOk_all hk
    obtain ⟨n, rfl⟩ : ∃ n : Nat, m = n := ⟨m.toNat, by omega⟩
    obtain ⟨u, rfl⟩ : ∃ u : Nat, t = u := ⟨t.toNat, by omega⟩
    rw [h] at htt
    rw [spR_yes hk] at h
    simp at h
    obtain ⟨rfl, _⟩ := h
    have hun : u < n := by omega
    refine ⟨mgOk_of htt.1 htt.2, ?_, fun x => same_numbers hun x⟩
    rw [mg_len]
    have := deal_tot hun xs xs.length (Nat.le_refl _)
    rwa [List.take_length] at this
set_option maxRecDepth 100000 in
set_option maxHeartbeats 32000000 in
theorem lawChains_any (co : Option Addr) (cap : Nat) (bs : List Int) (mo : Option Addr) (mcap : Nat) (ms : List Int) (w : World) (hl : bs.length ≤ 9223372036854775807) (hml : ms.length ≤ 9223372036854775807) (hb : BytesIn w.heap.size w co bs) (hm : BytesIn w.heap.size w mo ms) :
    Calls Try.prog 9 #[.slice co bs.length cap, .slice mo ms.length mcap] w fun e w' => e = .returned (.bool true) ∧ Below w.heap.size w w' := by
  by_cases hbig : 1048576 < wrap64 ((bs.length : Int) + (ms.length : Int))
  · go_enter Try.func9, Try.ntmps9
    go_wp2
    go_ret
    exact ⟨rfl, Below.refl _ _⟩
  go_enter Try.func9, Try.ntmps9
  go_wp2_with fail
  refine (drawChain_any co cap bs w hl hb).mono ?_
  rintro e w1 ⟨⟨o, c, ts, v, rfl, h9, _, hF1⟩, hB1⟩
  have hcap := hF1.cap
  have F1 := hid hF1
  clear hF1
  have hTP := two_pieces (l := ts) (v := v)
  have hrl := chR_len ts v
  generalize hR : chR ts v = R at hTP hrl
  have HR := hid hR
  have HTP := hid hTP
  clear hR hTP
  obtain ⟨r0, r1, r2⟩ := R
  dsimp only at hrl
  have hr1 : (r1 != r1) = false := by simp
  have hr2 : (r2 != r2) = false := by simp
  go_wp2_with fail
  refine (implChain_any o c ts v w1 (by omega) F1.out.in).mono ?_
  rw [HR.out]
  rintro e w2 ⟨⟨o2, c2, rfl, _, hG2⟩, hb2⟩
  dsimp only at hG2 ⊢
  have hB2 := hB1.trans (hb2.mono hB1.size)
  have F2 := hid (F1.out.later hb2)
  have G2 := hid hG2
  clear hb2 hG2 F1
  go_wp2_with fail
  refine (specChain_any o c ts v w2 (by omega) F2.out.in).mono ?_
  rw [HR.out]
  rintro e w3 ⟨⟨o3, c3, rfl, _, hS3⟩, hb3⟩
  dsimp only at hS3 ⊢
  have hB3 := hB2.trans (hb3.mono hB2.size)
  have F3 := hid (F2.out.later hb3)
  have G3 := hid (G2.out.later hb3)
  have S3 := hid hS3
  clear hb3 hS3 F2 G2
  go_wp2_with fail
  refine (sameInts_same o2 o3 c2 c3 r0 w3 (by omega) G3.out.in S3.out.in).mono ?_
  rintro e w4 ⟨rfl, hb4⟩
  have hB4 := hB3.trans (hb4.mono hB3.size)
  have F4 := hid (F3.out.later hb4)
  have G4 := hid (G3.out.later hb4)
  clear hb4 F3 G3 S3
  cases r2 with
  | false =>
    go_wp2_with fail
    refine (drawSplit_any mo mcap ms w4 hml (hm.later hB4 hB4.size)).mono ?_
    rintro e v1 ⟨⟨no, nc, xs, many, turn, rfl, hx, hxi⟩, hb1⟩
    have hBv1 := hB4.trans (hb1.mono hB4.size)
    have N1 := hid hxi
    clear hb1 hxi
    generalize hQ : spR xs many turn = Q
    have HQ := hid hQ
    clear hQ
    obtain ⟨q0, q1, q2⟩ := Q
    have hq1 : (q1 != q1) = false := by simp
    have hq2 : (q2 != q2) = false := by simp
    go_wp2_with fail
    refine (implSplit_any no nc xs many turn v1 (by omega) N1.out).mono ?_
    rw [HQ.out]
    rintro e v2 ⟨⟨o2, c2, h2, rfl, hF2⟩, hb2⟩
    dsimp only at hF2 ⊢
    have hBv2 := hBv1.trans (hb2.mono hBv1.size)
    have N2 := hid (N1.out.later hb2)
    have F2 := hid hF2
    clear hb2 hF2 N1
    go_wp2_with fail
    refine (specSplit_any no nc xs many turn v2 (by omega) N2.out).mono ?_
    rw [HQ.out]
    rintro e v3 ⟨⟨o3, c3, h3, rfl, _⟩, hb3⟩
    dsimp only
    have hBv3 := hBv2.trans (hb3.mono hBv2.size)
    have N3 := hid (N2.out.later hb3)
    have F3 := hid (F2.out.later hb3)
    clear hb3 N2 F2
    cases q2 with
    | false =>
      go_wp2
      go_ret
      exact ⟨rfl, hBv3⟩
    | true =>
      obtain ⟨hok, hml2, hcn⟩ := spR_true HQ.out
      have hq10 := mgOk_all hok
      have HM := hid (mgR_yes (ds := []) hok)
      generalize mg q0 [] = mm at hml2 hcn HM
      have HCN := hid hcn
      clear hok hcn
      go_wp2_with fail
      refine (implMerge_any o2 c2 h2 q0 none 0 [] v3 (by omega) (by omega) F3.out.in (fun j hj => (F3.out.2.2.1 j hj).2.cap) (.inl rfl)).mono ?_
      rw [HM.out]
      rintro e v4 ⟨⟨o4, c4, rfl, _, hF4⟩, hb4⟩
      dsimp only at hF4 ⊢
      have hBv4 := hBv3.trans (hb4.mono hBv3.size)
      have N4 := hid (N3.out.later hb4)
      have M4 := hid hF4.in
      clear hb4 hF4 N3 F3
      rw [hml2]
      have hnn : ((xs.length : Int) != (xs.length : Int)) = false := by simp
      go_wp2
      go_loop [183] (fun i => ∃ k : Nat, k ≤ xs.length ∧ i = .int .i64 k) (fun i => xs.length - (intOf i).toNat)
      case atStart => exact ⟨0, Nat.zero_le _, rfl⟩
      case round =>
        obtain ⟨k, hk, rfl⟩ := hrel
        by_cases hlt : k < xs.length
        · obtain ⟨bx, ox, rfl, hbx, hcx⟩ := ints_at N4.out hlt
          obtain ⟨bm, om, rfl, hbm, hcm⟩ := ints_at M4.out (k := k) (by omega)
          have d1 := hcx k hlt
          obtain ⟨x, hxk⟩ : ∃ x, x = el xs k := ⟨_, rfl⟩
          rw [← hxk] at d1
          have HX := hid hcx
          have HMM := hid hcm
          clear hxk hcx hcm
          go_wp2
          go_loop [36, 37, 189] (fun a b i => ∃ j : Nat, j ≤ xs.length ∧ i = .int .i64 j ∧ a = .int .i64 (cnt x (xs.take j) : Int) ∧ b = .int .i64 (cnt x (mm.take j) : Int)) (fun _ _ i => xs.length - (intOf i).toNat)
          case atStart => exact ⟨0, Nat.zero_le _, rfl, rfl, rfl⟩
          case round =>
            obtain ⟨j, hj, rfl, rfl, rfl⟩ := hrel
            have hcle1 : cnt x (xs.take j) ≤ 101 := Nat.le_trans List.count_le_length (by simp; omega)
            have hcle2 : cnt x (mm.take j) ≤ 101 := Nat.le_trans List.count_le_length (by simp; omega)
            by_cases hjt : j < xs.length
            · have e1 := HX.out j hjt
              have e2 := HMM.out j (by omega)
              have T1 := hid (cnt_take x hjt)
              have T2 := hid (cnt_take x (l := mm) (j := j) (by omega))
              generalize el xs j = y1 at e1 T1
              generalize el mm j = y2 at e2 T2
              by_cases g1 : y1 = x
              · have g1' : (y1 == x) = true := by simpa using g1
                rw [if_pos g1] at T1
                clear g1
                by_cases g2 : y2 = x
                · have g2' : (y2 == x) = true := by simpa using g2
                  rw [if_pos g2] at T2
                  clear g2
                  go_wp2
                  go_round
                  case rel => exact ⟨j + 1, by omega, by go_num, by rw [T1.out]; go_num, by rw [T2.out]; go_num⟩
                  case measure => simp [intOf]; omega
                · have g2' : (y2 == x) = false := by simpa using g2
                  rw [if_neg g2] at T2
                  clear g2
                  go_wp2
                  go_round
                  case rel => exact ⟨j + 1, by omega, by go_num, by rw [T1.out]; go_num, by rw [T2.out]; rfl⟩
                  case measure => simp [intOf]; omega
              · have g1' : (y1 == x) = false := by simpa using g1
                rw [if_neg g1] at T1
                clear g1
                by_cases g2 : y2 = x
                · have g2' : (y2 == x) = true := by simpa using g2
                  rw [if_pos g2] at T2
                  clear g2
                  go_wp2
                  go_round
                  case rel => exact ⟨j + 1, by omega, by go_num, by rw [T1.out]; rfl, by rw [T2.out]; go_num⟩
                  case measure => simp [intOf]; omega
                · have g2' : (y2 == x) = false := by simpa using g2
                  rw [if_neg g2] at T2
                  clear g2
                  go_wp2
                  go_round
                  case rel => exact ⟨j + 1, by omega, by go_num, by rw [T1.out]; rfl, by rw [T2.out]; rfl⟩
                  case measure => simp [intOf]; omega
            · obtain rfl : j = xs.length := by omega
              rw [List.take_length, show mm.take xs.length = mm from by rw [← hml2, List.take_length], HCN.out x]
              have hcc : ((cnt x xs : Int) != (cnt x xs : Int)) = false := by simp
              go_wp2
              go_round
              case rel => exact ⟨k + 1, by omega, by go_num⟩
              case measure => simp [intOf]; omega
        · obtain rfl : k = xs.length := by omega
          go_wp2
          go_ret
          exact ⟨rfl, hBv4⟩
  | true =>
    by_cases h0 : ts.length = 0
    · have h0' : decide ((0 : Int) < (ts.length : Int)) = false := by simp; exact List.length_eq_zero_iff.1 h0
      have hnp : ¬ 0 < ts.length := by omega
      clear h0 hcap h9
      go_wp2_with fail
      refine (drawSplit_any mo mcap ms w4 hml (hm.later hB4 hB4.size)).mono ?_
      rintro e v1 ⟨⟨no, nc, xs, many, turn, rfl, hx, hxi⟩, hb1⟩
      have hBv1 := hB4.trans (hb1.mono hB4.size)
      have N1 := hid hxi
      clear hb1 hxi
      generalize hQ : spR xs many turn = Q
      have HQ := hid hQ
      clear hQ
      obtain ⟨q0, q1, q2⟩ := Q
      have hq1 : (q1 != q1) = false := by simp
      have hq2 : (q2 != q2) = false := by simp
      go_wp2_with fail
      refine (implSplit_any no nc xs many turn v1 (by omega) N1.out).mono ?_
      rw [HQ.out]
      rintro e v2 ⟨⟨o2, c2, h2, rfl, hF2⟩, hb2⟩
      dsimp only at hF2 ⊢
      have hBv2 := hBv1.trans (hb2.mono hBv1.size)
      have N2 := hid (N1.out.later hb2)
      have F2 := hid hF2
      clear hb2 hF2 N1
      go_wp2_with fail
      refine (specSplit_any no nc xs many turn v2 (by omega) N2.out).mono ?_
      rw [HQ.out]
      rintro e v3 ⟨⟨o3, c3, h3, rfl, _⟩, hb3⟩
      dsimp only
      have hBv3 := hBv2.trans (hb3.mono hBv2.size)
      have N3 := hid (N2.out.later hb3)
      have F3 := hid (F2.out.later hb3)
      clear hb3 N2 F2
      cases q2 with
      | false =>
        go_wp2
        go_ret
        exact ⟨rfl, hBv3⟩
      | true =>
        obtain ⟨hok, hml2, hcn⟩ := spR_true HQ.out
        have hq10 := mgOk_all hok
        have HM := hid (mgR_yes (ds := []) hok)
        generalize mg q0 [] = mm at hml2 hcn HM
        have HCN := hid hcn
        clear hok hcn
        go_wp2_with fail
        refine (implMerge_any o2 c2 h2 q0 none 0 [] v3 (by omega) (by omega) F3.out.in (fun j hj => (F3.out.2.2.1 j hj).2.cap) (.inl rfl)).mono ?_
        rw [HM.out]
        rintro e v4 ⟨⟨o4, c4, rfl, _, hF4⟩, hb4⟩
        dsimp only at hF4 ⊢
        have hBv4 := hBv3.trans (hb4.mono hBv3.size)
        have N4 := hid (N3.out.later hb4)
        have M4 := hid hF4.in
        clear hb4 hF4 N3 F3
        rw [hml2]
        have hnn : ((xs.length : Int) != (xs.length : Int)) = false := by simp
        go_wp2
        go_loop [183] (fun i => ∃ k : Nat, k ≤ xs.length ∧ i = .int .i64 k) (fun i => xs.length - (intOf i).toNat)
        case atStart => exact ⟨0, Nat.zero_le _, rfl⟩
        case round =>
          obtain ⟨k, hk, rfl⟩ := hrel
          by_cases hlt : k < xs.length
          · obtain ⟨bx, ox, rfl, hbx, hcx⟩ := ints_at N4.out hlt
            obtain ⟨bm, om, rfl, hbm, hcm⟩ := ints_at M4.out (k := k) (by omega)
            have d1 := hcx k hlt
            obtain ⟨x, hxk⟩ : ∃ x, x = el xs k := ⟨_, rfl⟩
            rw [← hxk] at d1
            have HX := hid hcx
            have HMM := hid hcm
            clear hxk hcx hcm
            go_wp2
            go_loop [36, 37, 189] (fun a b i => ∃ j : Nat, j ≤ xs.length ∧ i = .int .i64 j ∧ a = .int .i64 (cnt x (xs.take j) : Int) ∧ b = .int .i64 (cnt x (mm.take j) : Int)) (fun _ _ i => xs.length - (intOf i).toNat)
            case atStart => exact ⟨0, Nat.zero_le _, rfl, rfl, rfl⟩
            case round =>
              obtain ⟨j, hj, rfl, rfl, rfl⟩ := hrel
              have hcle1 : cnt x (xs.take j) ≤ 101 := Nat.le_trans List.count_le_length (by simp; omega)
              have hcle2 : cnt x (mm.take j) ≤ 101 := Nat.le_trans List.count_le_length (by simp; omega)
              by_cases hjt : j < xs.length
              · have e1 := HX.out j hjt
                have e2 := HMM.out j (by omega)
                have T1 := hid (cnt_take x hjt)
                have T2 := hid (cnt_take x (l := mm) (j := j) (by omega))
                generalize el xs j = y1 at e1 T1
                generalize el mm j = y2 at e2 T2
                by_cases g1 : y1 = x
                · have g1' : (y1 == x) = true := by simpa using g1
                  rw [if_pos g1] at T1
                  clear g1
                  by_cases g2 : y2 = x
                  · have g2' : (y2 == x) = true := by simpa using g2
                    rw [if_pos g2] at T2
                    clear g2
                    go_wp2
                    go_round
                    case rel => exact ⟨j + 1, by omega, by go_num, by rw [T1.out]; go_num, by rw [T2.out]; go_num⟩
                    case measure => simp [intOf]; omega
                  · have g2' : (y2 == x) = false := by simpa using g2
                    rw [if_neg g2] at T2
                    clear g2
                    go_wp2
                    go_round
                    case rel => exact ⟨j + 1, by omega, by go_num, by rw [T1.out]; go_num, by rw [T2.out]; rfl⟩
                    case measure => simp [intOf]; omega
                · have g1' : (y1 == x) = false := by simpa using g1
                  rw [if_neg g1] at T1
                  clear g1
                  by_cases g2 : y2 = x
                  · have g2' : (y2 == x) = true := by simpa using g2
                    rw [if_pos g2] at T2
                    clear g2
                    go_wp2
                    go_round
                    case rel => exact ⟨j + 1, by omega, by go_num, by rw [T1.out]; rfl, by rw [T2.out]; go_num⟩
                    case measure => simp [intOf]; omega
                  · have g2' : (y2 == x) = false := by simpa using g2
                    rw [if_neg g2] at T2
                    clear g2
                    go_wp2
                    go_round
                    case rel => exact ⟨j + 1, by omega, by go_num, by rw [T1.out]; rfl, by rw [T2.out]; rfl⟩
                    case measure => simp [intOf]; omega
              · obtain rfl : j = xs.length := by omega
                rw [List.take_length, show mm.take xs.length = mm from by rw [← hml2, List.take_length], HCN.out x]
                have hcc : ((cnt x xs : Int) != (cnt x xs : Int)) = false := by simp
                go_wp2
                go_round
                case rel => exact ⟨k + 1, by omega, by go_num⟩
                case measure => simp [intOf]; omega
          · obtain rfl : k = xs.length := by omega
            go_wp2
            go_ret
            exact ⟨rfl, hBv4⟩
    have h0' : decide ((0 : Int) < (ts.length : Int)) = true := by simp; omega
    obtain ⟨g, rfl, _, _, _, _⟩ := F4.out.at (by omega)
    have htn : 0 < ts.length := by omega
    have hTP := HTP.out rfl
    have hts8 : ts.length ≤ 8 := chR_short (v := v) (by rw [HR.out])
    have M4 := hid (hm.later hB4 hB4.size)
    go_wp2_with fail
    refine (numberOf_any mo mcap ms w4 M4.out hml).mono ?_
    rintro e wx ⟨⟨z, rfl, hz0, hz1⟩, hws⟩
    rw [hws]; clear hws wx M4
    obtain ⟨k, hk⟩ : ∃ k : Nat, z % ((ts.length : Int) + 1) = k := ⟨(z % ((ts.length : Int) + 1)).toNat, by have := Int.emod_nonneg z (b := (ts.length : Int) + 1) (by omega); omega⟩
    have hkl : k ≤ ts.length := by have := Int.emod_lt_of_pos z (b := (ts.length : Int) + 1) (by omega); omega
    have hkt : z.tmod ((ts.length : Int) + 1) = (k : Int) := by rw [Int.tmod_eq_emod_of_nonneg hz0]; exact hk
    obtain ⟨hp1, hp2, hp3⟩ := hTP k
    have hu3 := chR_len3 (ts.take k) v
    rw [show (ts.take k).length = k from by simp; omega] at hu3
    generalize hU : chR (ts.take k) v = U at hp1 hp2 hp3 hu3
    obtain ⟨u0, u1, u2⟩ := U
    dsimp only at hp1 hp2 hp3 hu3
    have HU := hid hU
    have HP1 := hid hp1
    have HP2 := hid hp2
    have htk : (ts.take k).length = k := by simp; omega
    have HTK := hid htk
    have I4 := hid (F4.out.in.take k)
    clear hU hp1 hp2 htk hTP HTP
    have HC := hid (implChain_any (some ⟨g, 0, none⟩) c (ts.take k) v w4 (by rw [HTK.out]; omega) I4.out)
    rw [HU.out, HTK.out] at HC
    go_wp2_with fail
    refine (HC.out).mono ?_
    rintro e w5 ⟨⟨o5, c5, rfl, _, hV5⟩, hb5⟩
    dsimp only at hV5 ⊢
    have hB5 := hB4.trans (hb5.mono hB4.size)
    have F5 := hid (F4.out.later hb5)
    have G5 := hid (G4.out.later hb5)
    have V5 := hid hV5.in
    clear hb5 hV5 F4 G4 I4 HC
    by_cases hck : c = k
    · have e1 : k = ts.length := by omega
      have e2 : c = ts.length := by omega
      clear hck
      subst e1
      subst e2
      have DR := hid (kG_drop (k := ts.length) F5.out.in (Nat.le_refl ts.length))
      rw [if_pos rfl] at DR
      have hdl : (ts.drop ts.length).length = 0 := by simp
      go_wp2
      go_loopw [15, 17, 101] (fun f a i wr => ∃ (j : Nat) (vv : Value), vv = a ∧ j ≤ u0.length ∧ i = .int .i64 j ∧ f = .bool (u1 || pieceF (ts.drop ts.length) (u0.take j)) ∧ Hid (kI.Own w5.heap.size wr vv (pieceO (ts.drop ts.length) (u0.take j))) ∧ Hid (Below w5.heap.size w5 wr)) (fun _ _ i _ => u0.length - (intOf i).toNat)
      case atStart => exact ⟨0, _, rfl, Nat.zero_le _, rfl, by simp [pieceF], Kind.Own.nil _ _ _, Below.refl _ _⟩
      case round =>
        obtain ⟨j, vv, rfl, hj, rfl, rfl, hO, hQ⟩ := hrel
        by_cases hjt : j < u0.length
        · obtain ⟨bb, off, rfl, hbb, hcc⟩ := ints_at V5.out hjt
          have d1 := (hQ.out.cell (p := ⟨bb, off + j, none⟩) hbb).trans (hcc j hjt)
          have T1 := hid (pieceF_take (ts.drop ts.length) hjt)
          have T2 := hid (pieceO_take (ts.drop ts.length) hjt)
          have hpl := piece_small hts8 hkl hu3 j
          have hxl := chR_len (ts.drop ts.length) (el u0 j)
          obtain ⟨x, hx⟩ : ∃ x, x = el u0 j := ⟨_, rfl⟩
          rw [← hx] at d1 T1 T2 hxl
          clear hx hcc
          have D5 := hid (DR.out.later hQ.out)
          have HC2 := hid (implChain_any (some ⟨g, 0, none⟩) 0 (ts.drop ts.length) x wr (by rw [hdl]; omega) D5.out)
          rw [hdl] at HC2
          generalize hY : chR (ts.drop ts.length) x = Y at T1 T2 HC2 hxl
          obtain ⟨y0, y1, y2⟩ := Y
          dsimp only at T1 T2 hxl
          clear hY
          generalize hfj : pieceF (ts.drop ts.length) (u0.take j) = fj at T1 ⊢
          clear hfj
          have hlp : (pieceO (ts.drop ts.length) (u0.take j)).length + y0.length ≤ 4194304 := by omega
          generalize hpo : pieceO (ts.drop ts.length) (u0.take j) = po at hO T2 hlp
          clear hpo hpl hxl
          obtain ⟨bb2, hbb2⟩ : ∃ b, (u1 || fj) = b := ⟨_, rfl⟩
          rw [hbb2]
          have T3 : Hid ((u1 || pieceF (ts.drop ts.length) (u0.take (j + 1))) = (bb2 || y1)) := by rw [Hid, T1.out, ← Bool.or_assoc, hbb2]
          clear hbb2 T1
          cases bb2 with
          | true =>
            go_wp2_with fail
            refine (HC2.out).mono ?_
            rintro e w6 ⟨⟨o6, c6, rfl, h06, hF6⟩, hb6⟩
            dsimp only at hF6 ⊢
            have HO6 := hid (hO.out.below hb6)
            have hQ6 := hid (hQ.out.trans (hb6.mono hQ.out.size))
            have HF6 := hid hF6.in
            have H06 := hid h06
            clear hF6 hb6 h06 hO HC2 D5
            go_wp2_with (at_builtin; refine Kind.app kI_ok w6 rfl (.tmp 118) (.tmp 119) rfl w5.heap.size vv po rfl HO6.out hQ6.out.size o6 y0 y0.length c6 rfl rfl H06.out _ HF6.out hlp ?_; intro v' w' hO' hB' hG' hn'; have hQ7 := hid (hQ6.out.trans hB'); have HO' : Hid (kI.Own w5.heap.size w' v' (pieceO (ts.drop ts.length) (u0.take (j + 1)))) := (by rw [Hid, T2.out]; exact hO'); clear hO' hB' hG' hn')
            go_roundw
            case rel => exact ⟨j + 1, v', rfl, by omega, by go_num, by rw [T3.out]; rfl, HO', hQ7⟩
            case measure => simp [intOf]; omega
          | false =>
            go_wp2_with fail
            refine (HC2.out).mono ?_
            rintro e w6 ⟨⟨o6, c6, rfl, h06, hF6⟩, hb6⟩
            dsimp only at hF6 ⊢
            have HO6 := hid (hO.out.below hb6)
            have hQ6 := hid (hQ.out.trans (hb6.mono hQ.out.size))
            have HF6 := hid hF6.in
            have H06 := hid h06
            clear hF6 hb6 h06 hO HC2 D5
            go_wp2_with (at_builtin; refine Kind.app kI_ok w6 rfl (.tmp 118) (.tmp 119) rfl w5.heap.size vv po rfl HO6.out hQ6.out.size o6 y0 y0.length c6 rfl rfl H06.out _ HF6.out hlp ?_; intro v' w' hO' hB' hG' hn'; have hQ7 := hid (hQ6.out.trans hB'); have HO' : Hid (kI.Own w5.heap.size w' v' (pieceO (ts.drop ts.length) (u0.take (j + 1)))) := (by rw [Hid, T2.out]; exact hO'); clear hO' hB' hG' hn')
            go_roundw
            case rel => exact ⟨j + 1, v', rfl, by omega, by go_num, by rw [T3.out]; rfl, HO', hQ7⟩
            case measure => simp [intOf]; omega
        · obtain rfl : j = u0.length := by omega
          rw [List.take_length] at hO ⊢
          have hBr := hB5.trans (hQ.out.mono hB5.size)
          rw [HP1.out]
          cases r1 with
          | true =>
            clear hO
            go_wp2_with fail
            refine (drawSplit_any mo mcap ms wr hml (hm.later hBr hBr.size)).mono ?_
            rintro e v1 ⟨⟨no, nc, xs, many, turn, rfl, hx, hxi⟩, hb1⟩
            have hBv1 := hBr.trans (hb1.mono hBr.size)
            have N1 := hid hxi
            clear hb1 hxi
            generalize hQ : spR xs many turn = Q
            have HQ := hid hQ
            clear hQ
            obtain ⟨q0, q1, q2⟩ := Q
            have hq1 : (q1 != q1) = false := by simp
            have hq2 : (q2 != q2) = false := by simp
            go_wp2_with fail
            refine (implSplit_any no nc xs many turn v1 (by omega) N1.out).mono ?_
            rw [HQ.out]
            rintro e v2 ⟨⟨o2, c2, h2, rfl, hF2⟩, hb2⟩
            dsimp only at hF2 ⊢
            have hBv2 := hBv1.trans (hb2.mono hBv1.size)
            have N2 := hid (N1.out.later hb2)
            have F2 := hid hF2
            clear hb2 hF2 N1
            go_wp2_with fail
            refine (specSplit_any no nc xs many turn v2 (by omega) N2.out).mono ?_
            rw [HQ.out]
            rintro e v3 ⟨⟨o3, c3, h3, rfl, _⟩, hb3⟩
            dsimp only
            have hBv3 := hBv2.trans (hb3.mono hBv2.size)
            have N3 := hid (N2.out.later hb3)
            have F3 := hid (F2.out.later hb3)
            clear hb3 N2 F2
            cases q2 with
            | false =>
              go_wp2
              go_ret
              exact ⟨rfl, hBv3⟩
            | true =>
              obtain ⟨hok, hml2, hcn⟩ := spR_true HQ.out
              have hq10 := mgOk_all hok
              have HM := hid (mgR_yes (ds := []) hok)
              generalize mg q0 [] = mm at hml2 hcn HM
              have HCN := hid hcn
              clear hok hcn
              go_wp2_with fail
              refine (implMerge_any o2 c2 h2 q0 none 0 [] v3 (by omega) (by omega) F3.out.in (fun j hj => (F3.out.2.2.1 j hj).2.cap) (.inl rfl)).mono ?_
              rw [HM.out]
              rintro e v4 ⟨⟨o4, c4, rfl, _, hF4⟩, hb4⟩
              dsimp only at hF4 ⊢
              have hBv4 := hBv3.trans (hb4.mono hBv3.size)
              have N4 := hid (N3.out.later hb4)
              have M4 := hid hF4.in
              clear hb4 hF4 N3 F3
              rw [hml2]
              have hnn : ((xs.length : Int) != (xs.length : Int)) = false := by simp
              go_wp2
              go_loop [183] (fun i => ∃ k : Nat, k ≤ xs.length ∧ i = .int .i64 k) (fun i => xs.length - (intOf i).toNat)
              case atStart => exact ⟨0, Nat.zero_le _, rfl⟩
              case round =>
                obtain ⟨k, hk, rfl⟩ := hrel
                by_cases hlt : k < xs.length
                · obtain ⟨bx, ox, rfl, hbx, hcx⟩ := ints_at N4.out hlt
                  obtain ⟨bm, om, rfl, hbm, hcm⟩ := ints_at M4.out (k := k) (by omega)
                  have d1 := hcx k hlt
                  obtain ⟨x, hxk⟩ : ∃ x, x = el xs k := ⟨_, rfl⟩
                  rw [← hxk] at d1
                  have HX := hid hcx
                  have HMM := hid hcm
                  clear hxk hcx hcm
                  go_wp2
                  go_loop [36, 37, 189] (fun a b i => ∃ j : Nat, j ≤ xs.length ∧ i = .int .i64 j ∧ a = .int .i64 (cnt x (xs.take j) : Int) ∧ b = .int .i64 (cnt x (mm.take j) : Int)) (fun _ _ i => xs.length - (intOf i).toNat)
                  case atStart => exact ⟨0, Nat.zero_le _, rfl, rfl, rfl⟩
                  case round =>
                    obtain ⟨j, hj, rfl, rfl, rfl⟩ := hrel
                    have hcle1 : cnt x (xs.take j) ≤ 101 := Nat.le_trans List.count_le_length (by simp; omega)
                    have hcle2 : cnt x (mm.take j) ≤ 101 := Nat.le_trans List.count_le_length (by simp; omega)
                    by_cases hjt : j < xs.length
                    · have e1 := HX.out j hjt
                      have e2 := HMM.out j (by omega)
                      have T1 := hid (cnt_take x hjt)
                      have T2 := hid (cnt_take x (l := mm) (j := j) (by omega))
                      generalize el xs j = y1 at e1 T1
                      generalize el mm j = y2 at e2 T2
                      by_cases g1 : y1 = x
                      · have g1' : (y1 == x) = true := by simpa using g1
                        rw [if_pos g1] at T1
                        clear g1
                        by_cases g2 : y2 = x
                        · have g2' : (y2 == x) = true := by simpa using g2
                          rw [if_pos g2] at T2
                          clear g2
                          go_wp2
                          go_round
                          case rel => exact ⟨j + 1, by omega, by go_num, by rw [T1.out]; go_num, by rw [T2.out]; go_num⟩
                          case measure => simp [intOf]; omega
                        · have g2' : (y2 == x) = false := by simpa using g2
                          rw [if_neg g2] at T2
                          clear g2
                          go_wp2
                          go_round
                          case rel => exact ⟨j + 1, by omega, by go_num, by rw [T1.out]; go_num, by rw [T2.out]; rfl⟩
                          case measure => simp [intOf]; omega
                      · have g1' : (y1 == x) = false := by simpa using g1
                        rw [if_neg g1] at T1
                        clear g1
                        by_cases g2 : y2 = x
                        · have g2' : (y2 == x) = true := by simpa using g2
                          rw [if_pos g2] at T2
                          clear g2
                          go_wp2
                          go_round
                          case rel => exact ⟨j + 1, by omega, by go_num, by rw [T1.out]; rfl, by rw [T2.out]; go_num⟩
                          case measure => simp [intOf]; omega
                        · have g2' : (y2 == x) = false := by simpa using g2
                          rw [if_neg g2] at T2
                          clear g2
                          go_wp2
                          go_round
                          case rel => exact ⟨j + 1, by omega, by go_num, by rw [T1.out]; rfl, by rw [T2.out]; rfl⟩
                          case measure => simp [intOf]; omega
                    · obtain rfl : j = xs.length := by omega
                      rw [List.take_length, show mm.take xs.length = mm from by rw [← hml2, List.take_length], HCN.out x]
                      have hcc : ((cnt x xs : Int) != (cnt x xs : Int)) = false := by simp
                      go_wp2
                      go_round
                      case rel => exact ⟨k + 1, by omega, by go_num⟩
                      case measure => simp [intOf]; omega
                · obtain rfl : k = xs.length := by omega
                  go_wp2
                  go_ret
                  exact ⟨rfl, hBv4⟩
          | false =>
            have HP3 := HP2.out rfl
            rw [HP3] at hO
            obtain ⟨ao, ac, rfl, _, hFa⟩ := hO.out.fresh
            have FA := hid hFa.in
            have GA := hid (G5.out.later hQ.out)
            clear hFa hO HP3
            go_wp2_with fail
            refine (sameInts_same ao o2 ac c2 r0 wr (by omega) FA.out GA.out.in).mono ?_
            rintro e w8 ⟨rfl, hb8⟩
            have hB8 := hBr.trans (hb8.mono hBr.size)
            clear hb8 FA GA
            go_wp2_with fail
            refine (drawSplit_any mo mcap ms w8 hml (hm.later hB8 hB8.size)).mono ?_
            rintro e v1 ⟨⟨no, nc, xs, many, turn, rfl, hx, hxi⟩, hb1⟩
            have hBv1 := hB8.trans (hb1.mono hB8.size)
            have N1 := hid hxi
            clear hb1 hxi
            generalize hQ : spR xs many turn = Q
            have HQ := hid hQ
            clear hQ
            obtain ⟨q0, q1, q2⟩ := Q
            have hq1 : (q1 != q1) = false := by simp
            have hq2 : (q2 != q2) = false := by simp
            go_wp2_with fail
            refine (implSplit_any no nc xs many turn v1 (by omega) N1.out).mono ?_
            rw [HQ.out]
            rintro e v2 ⟨⟨o2, c2, h2, rfl, hF2⟩, hb2⟩
            dsimp only at hF2 ⊢
            have hBv2 := hBv1.trans (hb2.mono hBv1.size)
            have N2 := hid (N1.out.later hb2)
            have F2 := hid hF2
            clear hb2 hF2 N1
            go_wp2_with fail
            refine (specSplit_any no nc xs many turn v2 (by omega) N2.out).mono ?_
            rw [HQ.out]
            rintro e v3 ⟨⟨o3, c3, h3, rfl, _⟩, hb3⟩
            dsimp only
            have hBv3 := hBv2.trans (hb3.mono hBv2.size)
            have N3 := hid (N2.out.later hb3)
            have F3 := hid (F2.out.later hb3)
            clear hb3 N2 F2
            cases q2 with
            | false =>
              go_wp2
              go_ret
              exact ⟨rfl, hBv3⟩
            | true =>
              obtain ⟨hok, hml2, hcn⟩ := spR_true HQ.out
              have hq10 := mgOk_all hok
              have HM := hid (mgR_yes (ds := []) hok)
              generalize mg q0 [] = mm at hml2 hcn HM
              have HCN := hid hcn
              clear hok hcn
              go_wp2_with fail
              refine (implMerge_any o2 c2 h2 q0 none 0 [] v3 (by omega) (by omega) F3.out.in (fun j hj => (F3.out.2.2.1 j hj).2.cap) (.inl rfl)).mono ?_
              rw [HM.out]
              rintro e v4 ⟨⟨o4, c4, rfl, _, hF4⟩, hb4⟩
              dsimp only at hF4 ⊢
              have hBv4 := hBv3.trans (hb4.mono hBv3.size)
              have N4 := hid (N3.out.later hb4)
              have M4 := hid hF4.in
              clear hb4 hF4 N3 F3
              rw [hml2]
              have hnn : ((xs.length : Int) != (xs.length : Int)) = false := by simp
              go_wp2
              go_loop [183] (fun i => ∃ k : Nat, k ≤ xs.length ∧ i = .int .i64 k) (fun i => xs.length - (intOf i).toNat)
              case atStart => exact ⟨0, Nat.zero_le _, rfl⟩
              case round =>
                obtain ⟨k, hk, rfl⟩ := hrel
                by_cases hlt : k < xs.length
                · obtain ⟨bx, ox, rfl, hbx, hcx⟩ := ints_at N4.out hlt
                  obtain ⟨bm, om, rfl, hbm, hcm⟩ := ints_at M4.out (k := k) (by omega)
                  have d1 := hcx k hlt
                  obtain ⟨x, hxk⟩ : ∃ x, x = el xs k := ⟨_, rfl⟩
                  rw [← hxk] at d1
                  have HX := hid hcx
                  have HMM := hid hcm
                  clear hxk hcx hcm
                  go_wp2
                  go_loop [36, 37, 189] (fun a b i => ∃ j : Nat, j ≤ xs.length ∧ i = .int .i64 j ∧ a = .int .i64 (cnt x (xs.take j) : Int) ∧ b = .int .i64 (cnt x (mm.take j) : Int)) (fun _ _ i => xs.length - (intOf i).toNat)
                  case atStart => exact ⟨0, Nat.zero_le _, rfl, rfl, rfl⟩
                  case round =>
                    obtain ⟨j, hj, rfl, rfl, rfl⟩ := hrel
                    have hcle1 : cnt x (xs.take j) ≤ 101 := Nat.le_trans List.count_le_length (by simp; omega)
                    have hcle2 : cnt x (mm.take j) ≤ 101 := Nat.le_trans List.count_le_length (by simp; omega)
                    by_cases hjt : j < xs.length
                    · have e1 := HX.out j hjt
                      have e2 := HMM.out j (by omega)
                      have T1 := hid (cnt_take x hjt)
                      have T2 := hid (cnt_take x (l := mm) (j := j) (by omega))
                      generalize el xs j = y1 at e1 T1
                      generalize el mm j = y2 at e2 T2
                      by_cases g1 : y1 = x
                      · have g1' : (y1 == x) = true := by simpa using g1
                        rw [if_pos g1] at T1
                        clear g1
                        by_cases g2 : y2 = x
                        · have g2' : (y2 == x) = true := by simpa using g2
                          rw [if_pos g2] at T2
                          clear g2
                          go_wp2
                          go_round
                          case rel => exact ⟨j + 1, by omega, by go_num, by rw [T1.out]; go_num, by rw [T2.out]; go_num⟩
                          case measure => simp [intOf]; omega
                        · have g2' : (y2 == x) = false := by simpa using g2
                          rw [if_neg g2] at T2
                          clear g2
                          go_wp2
                          go_round
                          case rel => exact ⟨j + 1, by omega, by go_num, by rw [T1.out]; go_num, by rw [T2.out]; rfl⟩
                          case measure => simp [intOf]; omega
                      · have g1' : (y1 == x) = false := by simpa using g1
                        rw [if_neg g1] at T1
                        clear g1
                        by_cases g2 : y2 = x
                        · have g2' : (y2 == x) = true := by simpa using g2
                          rw [if_pos g2] at T2
                          clear g2
                          go_wp2
                          go_round
                          case rel => exact ⟨j + 1, by omega, by go_num, by rw [T1.out]; rfl, by rw [T2.out]; go_num⟩
                          case measure => simp [intOf]; omega
                        · have g2' : (y2 == x) = false := by simpa using g2
                          rw [if_neg g2] at T2
                          clear g2
                          go_wp2
                          go_round
                          case rel => exact ⟨j + 1, by omega, by go_num, by rw [T1.out]; rfl, by rw [T2.out]; rfl⟩
                          case measure => simp [intOf]; omega
                    · obtain rfl : j = xs.length := by omega
                      rw [List.take_length, show mm.take xs.length = mm from by rw [← hml2, List.take_length], HCN.out x]
                      have hcc : ((cnt x xs : Int) != (cnt x xs : Int)) = false := by simp
                      go_wp2
                      go_round
                      case rel => exact ⟨k + 1, by omega, by go_num⟩
                      case measure => simp [intOf]; omega
                · obtain rfl : k = xs.length := by omega
                  go_wp2
                  go_ret
                  exact ⟨rfl, hBv4⟩
    have DR := hid (kG_drop (k := k) F5.out.in hcap)
    rw [if_neg hck] at DR
    have hdl : (ts.drop k).length = ts.length - k := by simp
    go_wp2
    go_loopw [15, 17, 101] (fun f a i wr => ∃ (j : Nat) (vv : Value), vv = a ∧ j ≤ u0.length ∧ i = .int .i64 j ∧ f = .bool (u1 || pieceF (ts.drop k) (u0.take j)) ∧ Hid (kI.Own w5.heap.size wr vv (pieceO (ts.drop k) (u0.take j))) ∧ Hid (Below w5.heap.size w5 wr)) (fun _ _ i _ => u0.length - (intOf i).toNat)
    case atStart => exact ⟨0, _, rfl, Nat.zero_le _, rfl, by simp [pieceF], Kind.Own.nil _ _ _, Below.refl _ _⟩
    case round =>
      obtain ⟨j, vv, rfl, hj, rfl, rfl, hO, hQ⟩ := hrel
      by_cases hjt : j < u0.length
      · obtain ⟨bb, off, rfl, hbb, hcc⟩ := ints_at V5.out hjt
        have d1 := (hQ.out.cell (p := ⟨bb, off + j, none⟩) hbb).trans (hcc j hjt)
        have T1 := hid (pieceF_take (ts.drop k) hjt)
        have T2 := hid (pieceO_take (ts.drop k) hjt)
        have hpl := piece_small hts8 hkl hu3 j
        have hxl := chR_len (ts.drop k) (el u0 j)
        obtain ⟨x, hx⟩ : ∃ x, x = el u0 j := ⟨_, rfl⟩
        rw [← hx] at d1 T1 T2 hxl
        clear hx hcc
        have D5 := hid (DR.out.later hQ.out)
        have HC2 := hid (implChain_any (some ⟨g, k * 3, none⟩) (c - k) (ts.drop k) x wr (by rw [hdl]; omega) D5.out)
        rw [hdl] at HC2
        generalize hY : chR (ts.drop k) x = Y at T1 T2 HC2 hxl
        obtain ⟨y0, y1, y2⟩ := Y
        dsimp only at T1 T2 hxl
        clear hY
        generalize hfj : pieceF (ts.drop k) (u0.take j) = fj at T1 ⊢
        clear hfj
        have hlp : (pieceO (ts.drop k) (u0.take j)).length + y0.length ≤ 4194304 := by omega
        generalize hpo : pieceO (ts.drop k) (u0.take j) = po at hO T2 hlp
        clear hpo hpl hxl
        obtain ⟨bb2, hbb2⟩ : ∃ b, (u1 || fj) = b := ⟨_, rfl⟩
        rw [hbb2]
        have T3 : Hid ((u1 || pieceF (ts.drop k) (u0.take (j + 1))) = (bb2 || y1)) := by rw [Hid, T1.out, ← Bool.or_assoc, hbb2]
        clear hbb2 T1
        cases bb2 with
        | true =>
          go_wp2_with fail
          refine (HC2.out).mono ?_
          rintro e w6 ⟨⟨o6, c6, rfl, h06, hF6⟩, hb6⟩
          dsimp only at hF6 ⊢
          have HO6 := hid (hO.out.below hb6)
          have hQ6 := hid (hQ.out.trans (hb6.mono hQ.out.size))
          have HF6 := hid hF6.in
          have H06 := hid h06
          clear hF6 hb6 h06 hO HC2 D5
          go_wp2_with (at_builtin; refine Kind.app kI_ok w6 rfl (.tmp 118) (.tmp 119) rfl w5.heap.size vv po rfl HO6.out hQ6.out.size o6 y0 y0.length c6 rfl rfl H06.out _ HF6.out hlp ?_; intro v' w' hO' hB' hG' hn'; have hQ7 := hid (hQ6.out.trans hB'); have HO' : Hid (kI.Own w5.heap.size w' v' (pieceO (ts.drop k) (u0.take (j + 1)))) := (by rw [Hid, T2.out]; exact hO'); clear hO' hB' hG' hn')
          go_roundw
          case rel => exact ⟨j + 1, v', rfl, by omega, by go_num, by rw [T3.out]; rfl, HO', hQ7⟩
          case measure => simp [intOf]; omega
        | false =>
          go_wp2_with fail
          refine (HC2.out).mono ?_
          rintro e w6 ⟨⟨o6, c6, rfl, h06, hF6⟩, hb6⟩
          dsimp only at hF6 ⊢
          have HO6 := hid (hO.out.below hb6)
          have hQ6 := hid (hQ.out.trans (hb6.mono hQ.out.size))
          have HF6 := hid hF6.in
          have H06 := hid h06
          clear hF6 hb6 h06 hO HC2 D5
          go_wp2_with (at_builtin; refine Kind.app kI_ok w6 rfl (.tmp 118) (.tmp 119) rfl w5.heap.size vv po rfl HO6.out hQ6.out.size o6 y0 y0.length c6 rfl rfl H06.out _ HF6.out hlp ?_; intro v' w' hO' hB' hG' hn'; have hQ7 := hid (hQ6.out.trans hB'); have HO' : Hid (kI.Own w5.heap.size w' v' (pieceO (ts.drop k) (u0.take (j + 1)))) := (by rw [Hid, T2.out]; exact hO'); clear hO' hB' hG' hn')
          go_roundw
          case rel => exact ⟨j + 1, v', rfl, by omega, by go_num, by rw [T3.out]; rfl, HO', hQ7⟩
          case measure => simp [intOf]; omega
      · obtain rfl : j = u0.length := by omega
        rw [List.take_length] at hO ⊢
        have hBr := hB5.trans (hQ.out.mono hB5.size)
        rw [HP1.out]
        cases r1 with
        | true =>
          clear hO
          go_wp2_with fail
          refine (drawSplit_any mo mcap ms wr hml (hm.later hBr hBr.size)).mono ?_
          rintro e v1 ⟨⟨no, nc, xs, many, turn, rfl, hx, hxi⟩, hb1⟩
          have hBv1 := hBr.trans (hb1.mono hBr.size)
          have N1 := hid hxi
          clear hb1 hxi
          generalize hQ : spR xs many turn = Q
          have HQ := hid hQ
          clear hQ
          obtain ⟨q0, q1, q2⟩ := Q
          have hq1 : (q1 != q1) = false := by simp
          have hq2 : (q2 != q2) = false := by simp
          go_wp2_with fail
          refine (implSplit_any no nc xs many turn v1 (by omega) N1.out).mono ?_
          rw [HQ.out]
          rintro e v2 ⟨⟨o2, c2, h2, rfl, hF2⟩, hb2⟩
          dsimp only at hF2 ⊢
          have hBv2 := hBv1.trans (hb2.mono hBv1.size)
          have N2 := hid (N1.out.later hb2)
          have F2 := hid hF2
          clear hb2 hF2 N1
          go_wp2_with fail
          refine (specSplit_any no nc xs many turn v2 (by omega) N2.out).mono ?_
          rw [HQ.out]
          rintro e v3 ⟨⟨o3, c3, h3, rfl, _⟩, hb3⟩
          dsimp only
          have hBv3 := hBv2.trans (hb3.mono hBv2.size)
          have N3 := hid (N2.out.later hb3)
          have F3 := hid (F2.out.later hb3)
          clear hb3 N2 F2
          cases q2 with
          | false =>
            go_wp2
            go_ret
            exact ⟨rfl, hBv3⟩
          | true =>
            obtain ⟨hok, hml2, hcn⟩ := spR_true HQ.out
            have hq10 := mgOk_all hok
            have HM := hid (mgR_yes (ds := []) hok)
            generalize mg q0 [] = mm at hml2 hcn HM
            have HCN := hid hcn
            clear hok hcn
            go_wp2_with fail
            refine (implMerge_any o2 c2 h2 q0 none 0 [] v3 (by omega) (by omega) F3.out.in (fun j hj => (F3.out.2.2.1 j hj).2.cap) (.inl rfl)).mono ?_
            rw [HM.out]
            rintro e v4 ⟨⟨o4, c4, rfl, _, hF4⟩, hb4⟩
            dsimp only at hF4 ⊢
            have hBv4 := hBv3.trans (hb4.mono hBv3.size)
            have N4 := hid (N3.out.later hb4)
            have M4 := hid hF4.in
            clear hb4 hF4 N3 F3
            rw [hml2]
            have hnn : ((xs.length : Int) != (xs.length : Int)) = false := by simp
            go_wp2
            go_loop [183] (fun i => ∃ k : Nat, k ≤ xs.length ∧ i = .int .i64 k) (fun i => xs.length - (intOf i).toNat)
            case atStart => exact ⟨0, Nat.zero_le _, rfl⟩
            case round =>
              obtain ⟨k, hk, rfl⟩ := hrel
              by_cases hlt : k < xs.length
              · obtain ⟨bx, ox, rfl, hbx, hcx⟩ := ints_at N4.out hlt
                obtain ⟨bm, om, rfl, hbm, hcm⟩ := ints_at M4.out (k := k) (by omega)
                have d1 := hcx k hlt
                obtain ⟨x, hxk⟩ : ∃ x, x = el xs k := ⟨_, rfl⟩
                rw [← hxk] at d1
                have HX := hid hcx
                have HMM := hid hcm
                clear hxk hcx hcm
                go_wp2
                go_loop [36, 37, 189] (fun a b i => ∃ j : Nat, j ≤ xs.length ∧ i = .int .i64 j ∧ a = .int .i64 (cnt x (xs.take j) : Int) ∧ b = .int .i64 (cnt x (mm.take j) : Int)) (fun _ _ i => xs.length - (intOf i).toNat)
                case atStart => exact ⟨0, Nat.zero_le _, rfl, rfl, rfl⟩
                case round =>
                  obtain ⟨j, hj, rfl, rfl, rfl⟩ := hrel
                  have hcle1 : cnt x (xs.take j) ≤ 101 := Nat.le_trans List.count_le_length (by simp; omega)
                  have hcle2 : cnt x (mm.take j) ≤ 101 := Nat.le_trans List.count_le_length (by simp; omega)
                  by_cases hjt : j < xs.length
                  · have e1 := HX.out j hjt
                    have e2 := HMM.out j (by omega)
                    have T1 := hid (cnt_take x hjt)
                    have T2 := hid (cnt_take x (l := mm) (j := j) (by omega))
                    generalize el xs j = y1 at e1 T1
                    generalize el mm j = y2 at e2 T2
                    by_cases g1 : y1 = x
                    · have g1' : (y1 == x) = true := by simpa using g1
                      rw [if_pos g1] at T1
                      clear g1
                      by_cases g2 : y2 = x
                      · have g2' : (y2 == x) = true := by simpa using g2
                        rw [if_pos g2] at T2
                        clear g2
                        go_wp2
                        go_round
                        case rel => exact ⟨j + 1, by omega, by go_num, by rw [T1.out]; go_num, by rw [T2.out]; go_num⟩
                        case measure => simp [intOf]; omega
                      · have g2' : (y2 == x) = false := by simpa using g2
                        rw [if_neg g2] at T2
                        clear g2
                        go_wp2
                        go_round
                        case rel => exact ⟨j + 1, by omega, by go_num, by rw [T1.out]; go_num, by rw [T2.out]; rfl⟩
                        case measure => simp [intOf]; omega
                    · have g1' : (y1 == x) = false := by simpa using g1
                      rw [if_neg g1] at T1
                      clear g1
                      by_cases g2 : y2 = x
                      · have g2' : (y2 == x) = true := by simpa using g2
                        rw [if_pos g2] at T2
                        clear g2
                        go_wp2
                        go_round
                        case rel => exact ⟨j + 1, by omega, by go_num, by rw [T1.out]; rfl, by rw [T2.out]; go_num⟩
                        case measure => simp [intOf]; omega
                      · have g2' : (y2 == x) = false := by simpa using g2
                        rw [if_neg g2] at T2
                        clear g2
                        go_wp2
                        go_round
                        case rel => exact ⟨j + 1, by omega, by go_num, by rw [T1.out]; rfl, by rw [T2.out]; rfl⟩
                        case measure => simp [intOf]; omega
                  · obtain rfl : j = xs.length := by omega
                    rw [List.take_length, show mm.take xs.length = mm from by rw [← hml2, List.take_length], HCN.out x]
                    have hcc : ((cnt x xs : Int) != (cnt x xs : Int)) = false := by simp
                    go_wp2
                    go_round
                    case rel => exact ⟨k + 1, by omega, by go_num⟩
                    case measure => simp [intOf]; omega
              · obtain rfl : k = xs.length := by omega
                go_wp2
                go_ret
                exact ⟨rfl, hBv4⟩
        | false =>
          have HP3 := HP2.out rfl
          rw [HP3] at hO
          obtain ⟨ao, ac, rfl, _, hFa⟩ := hO.out.fresh
          have FA := hid hFa.in
          have GA := hid (G5.out.later hQ.out)
          clear hFa hO HP3
          go_wp2_with fail
          refine (sameInts_same ao o2 ac c2 r0 wr (by omega) FA.out GA.out.in).mono ?_
          rintro e w8 ⟨rfl, hb8⟩
          have hB8 := hBr.trans (hb8.mono hBr.size)
          clear hb8 FA GA
          go_wp2_with fail
          refine (drawSplit_any mo mcap ms w8 hml (hm.later hB8 hB8.size)).mono ?_
          rintro e v1 ⟨⟨no, nc, xs, many, turn, rfl, hx, hxi⟩, hb1⟩
          have hBv1 := hB8.trans (hb1.mono hB8.size)
          have N1 := hid hxi
          clear hb1 hxi
          generalize hQ : spR xs many turn = Q
          have HQ := hid hQ
          clear hQ
          obtain ⟨q0, q1, q2⟩ := Q
          have hq1 : (q1 != q1) = false := by simp
          have hq2 : (q2 != q2) = false := by simp
          go_wp2_with fail
          refine (implSplit_any no nc xs many turn v1 (by omega) N1.out).mono ?_
          rw [HQ.out]
          rintro e v2 ⟨⟨o2, c2, h2, rfl, hF2⟩, hb2⟩
          dsimp only at hF2 ⊢
          have hBv2 := hBv1.trans (hb2.mono hBv1.size)
          have N2 := hid (N1.out.later hb2)
          have F2 := hid hF2
          clear hb2 hF2 N1
          go_wp2_with fail
          refine (specSplit_any no nc xs many turn v2 (by omega) N2.out).mono ?_
          rw [HQ.out]
          rintro e v3 ⟨⟨o3, c3, h3, rfl, _⟩, hb3⟩
          dsimp only
          have hBv3 := hBv2.trans (hb3.mono hBv2.size)
          have N3 := hid (N2.out.later hb3)
          have F3 := hid (F2.out.later hb3)
          clear hb3 N2 F2
          cases q2 with
          | false =>
            go_wp2
            go_ret
            exact ⟨rfl, hBv3⟩
          | true =>
            obtain ⟨hok, hml2, hcn⟩ := spR_true HQ.out
            have hq10 := mgOk_all hok
            have HM := hid (mgR_yes (ds := []) hok)
            generalize mg q0 [] = mm at hml2 hcn HM
            have HCN := hid hcn
            clear hok hcn
            go_wp2_with fail
            refine (implMerge_any o2 c2 h2 q0 none 0 [] v3 (by omega) (by omega) F3.out.in (fun j hj => (F3.out.2.2.1 j hj).2.cap) (.inl rfl)).mono ?_
            rw [HM.out]
            rintro e v4 ⟨⟨o4, c4, rfl, _, hF4⟩, hb4⟩
            dsimp only at hF4 ⊢
            have hBv4 := hBv3.trans (hb4.mono hBv3.size)
            have N4 := hid (N3.out.later hb4)
            have M4 := hid hF4.in
            clear hb4 hF4 N3 F3
            rw [hml2]
            have hnn : ((xs.length : Int) != (xs.length : Int)) = false := by simp
            go_wp2
            go_loop [183] (fun i => ∃ k : Nat, k ≤ xs.length ∧ i = .int .i64 k) (fun i => xs.length - (intOf i).toNat)
            case atStart => exact ⟨0, Nat.zero_le _, rfl⟩
            case round =>
              obtain ⟨k, hk, rfl⟩ := hrel
              by_cases hlt : k < xs.length
              · obtain ⟨bx, ox, rfl, hbx, hcx⟩ := ints_at N4.out hlt
                obtain ⟨bm, om, rfl, hbm, hcm⟩ := ints_at M4.out (k := k) (by omega)
                have d1 := hcx k hlt
                obtain ⟨x, hxk⟩ : ∃ x, x = el xs k := ⟨_, rfl⟩
                rw [← hxk] at d1
                have HX := hid hcx
                have HMM := hid hcm
                clear hxk hcx hcm
                go_wp2
                go_loop [36, 37, 189] (fun a b i => ∃ j : Nat, j ≤ xs.length ∧ i = .int .i64 j ∧ a = .int .i64 (cnt x (xs.take j) : Int) ∧ b = .int .i64 (cnt x (mm.take j) : Int)) (fun _ _ i => xs.length - (intOf i).toNat)
                case atStart => exact ⟨0, Nat.zero_le _, rfl, rfl, rfl⟩
                case round =>
                  obtain ⟨j, hj, rfl, rfl, rfl⟩ := hrel
                  have hcle1 : cnt x (xs.take j) ≤ 101 := Nat.le_trans List.count_le_length (by simp; omega)
                  have hcle2 : cnt x (mm.take j) ≤ 101 := Nat.le_trans List.count_le_length (by simp; omega)
                  by_cases hjt : j < xs.length
                  · have e1 := HX.out j hjt
                    have e2 := HMM.out j (by omega)
                    have T1 := hid (cnt_take x hjt)
                    have T2 := hid (cnt_take x (l := mm) (j := j) (by omega))
                    generalize el xs j = y1 at e1 T1
                    generalize el mm j = y2 at e2 T2
                    by_cases g1 : y1 = x
                    · have g1' : (y1 == x) = true := by simpa using g1
                      rw [if_pos g1] at T1
                      clear g1
                      by_cases g2 : y2 = x
                      · have g2' : (y2 == x) = true := by simpa using g2
                        rw [if_pos g2] at T2
                        clear g2
                        go_wp2
                        go_round
                        case rel => exact ⟨j + 1, by omega, by go_num, by rw [T1.out]; go_num, by rw [T2.out]; go_num⟩
                        case measure => simp [intOf]; omega
                      · have g2' : (y2 == x) = false := by simpa using g2
                        rw [if_neg g2] at T2
                        clear g2
                        go_wp2
                        go_round
                        case rel => exact ⟨j + 1, by omega, by go_num, by rw [T1.out]; go_num, by rw [T2.out]; rfl⟩
                        case measure => simp [intOf]; omega
                    · have g1' : (y1 == x) = false := by simpa using g1
                      rw [if_neg g1] at T1
                      clear g1
                      by_cases g2 : y2 = x
                      · have g2' : (y2 == x) = true := by simpa using g2
                        rw [if_pos g2] at T2
                        clear g2
                        go_wp2
                        go_round
                        case rel => exact ⟨j + 1, by omega, by go_num, by rw [T1.out]; rfl, by rw [T2.out]; go_num⟩
                        case measure => simp [intOf]; omega
                      · have g2' : (y2 == x) = false := by simpa using g2
                        rw [if_neg g2] at T2
                        clear g2
                        go_wp2
                        go_round
                        case rel => exact ⟨j + 1, by omega, by go_num, by rw [T1.out]; rfl, by rw [T2.out]; rfl⟩
                        case measure => simp [intOf]; omega
                  · obtain rfl : j = xs.length := by omega
                    rw [List.take_length, show mm.take xs.length = mm from by rw [← hml2, List.take_length], HCN.out x]
                    have hcc : ((cnt x xs : Int) != (cnt x xs : Int)) = false := by simp
                    go_wp2
                    go_round
                    case rel => exact ⟨k + 1, by omega, by go_num⟩
                    case measure => simp [intOf]; omega
              · obtain rfl : k = xs.length := by omega
                go_wp2
                go_ret
                exact ⟨rfl, hBv4⟩
theorem lawChains2 (co : Option Addr) (cap : Nat) (bs : List Int) (mo : Option Addr) (mcap : Nat) (ms : List Int) (w : World) (hl : bs.length ≤ 9223372036854775807) (hb : BytesIn w.heap.size w co bs) (hml : ms.length ≤ 9223372036854775807) (hm : BytesIn w.heap.size w mo ms) :
    Calls Try.prog 9 #[.slice co bs.length cap, .slice mo ms.length mcap] w fun e w' => e = .returned (.bool true) ∧ Below w.heap.size w w' := lawChains_any co cap bs mo mcap ms w hl hml hb hm
end Go.Proofs.Ytnjnnilmelmmgaa
