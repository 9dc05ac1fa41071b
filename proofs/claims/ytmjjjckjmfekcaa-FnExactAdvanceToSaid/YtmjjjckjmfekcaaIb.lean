/- A clock with a timer more: the program's. No conditions but those written. -/
import Derived.Test.YtmjjjckjmfekcaaIa
import Derived.Test.YtmjjjckjmfekcaaHg
import Derived.Test.YtmjjjckjmfekcaaPb
import Derived.Laws.BitsLemmas
namespace Go.Proofs.Ytmjjjckjmfekcaa
open Go.RowKit

theorem Boxes.alloc {W : World} {p : Nat} {now sq : Int} {v : Value} (h : Boxes W p now sq v) (o : Obj) : Boxes (W.alloc o) p now sq v := h.later (below1 _ _)
theorem Below.allocS {a w : World} (h : Below a.heap.size a w) (o : Obj) : Below a.heap.size a (w.alloc o) := h.alloc h.size o
/-- Block N is a zero clock, and may be written. -/
structure Zero3 (Y : World) (N : Nat) : Prop where
  z0 : Y.cell? ⟨N, 0, none⟩ = some (.int .i64 0)
  z1 : Y.cell? ⟨N, 1, none⟩ = some (.int .i64 0)
  z2 : Y.cell? ⟨N, 2, none⟩ = some (.slice none 0 0)
  f0 : Y.frozen? ⟨N, 0, none⟩ = false
  f1 : Y.frozen? ⟨N, 1, none⟩ = false
  f2 : Y.frozen? ⟨N, 2, none⟩ = false
  lt : N < Y.heap.size
theorem Zero3.later {Y Y' : World} {N : Nat} (h : Zero3 Y N) (hb : Below Y.heap.size Y Y') : Zero3 Y' N :=
  ⟨(hb.cell (p := ⟨N, 0, none⟩) h.lt).trans h.z0, (hb.cell (p := ⟨N, 1, none⟩) h.lt).trans h.z1, (hb.cell (p := ⟨N, 2, none⟩) h.lt).trans h.z2, (hb.frozen (p := ⟨N, 0, none⟩) h.lt).trans h.f0, (hb.frozen (p := ⟨N, 1, none⟩) h.lt).trans h.f1, (hb.frozen (p := ⟨N, 2, none⟩) h.lt).trans h.f2, Nat.lt_of_lt_of_le h.lt hb.size⟩
theorem Zero3.new (X : World) : Zero3 (X.alloc (.cells #[.int .i64 0, .int .i64 0, .slice none 0 0] 29)) X.heap.size := by
  constructor <;> simp [go_sem]
theorem Zero3.drew {Y : World} {N : Nat} (h : Zero3 Y N) : Zero3 Y.drew N := ⟨h.z0, h.z1, h.z2, h.f0, h.f1, h.f2, h.lt⟩
/-- Block N holds a clock whose timers may be written. -/
structure Nx (Y : World) (N : Nat) (now sq : Int) (v : Value) : Prop where
  n0 : Y.cell? ⟨N, 0, none⟩ = some (.int .i64 now)
  n1 : Y.cell? ⟨N, 1, none⟩ = some (.int .i64 sq)
  n2 : Y.cell? ⟨N, 2, none⟩ = some v
  nf : Y.frozen? ⟨N, 2, none⟩ = false
  lt : N < Y.heap.size
theorem Nx.later {Y Y' : World} {N : Nat} {now sq : Int} {v : Value} (h : Nx Y N now sq v) (hb : Below Y.heap.size Y Y') : Nx Y' N now sq v :=
  ⟨(hb.cell (p := ⟨N, 0, none⟩) h.lt).trans h.n0, (hb.cell (p := ⟨N, 1, none⟩) h.lt).trans h.n1, (hb.cell (p := ⟨N, 2, none⟩) h.lt).trans h.n2, (hb.frozen (p := ⟨N, 2, none⟩) h.lt).trans h.nf, Nat.lt_of_lt_of_le h.lt hb.size⟩
theorem Nx.new (X : World) (now sq : Int) (v : Value) : Nx (X.alloc (.cells #[.int .i64 now, .int .i64 sq, v] 29)) X.heap.size now sq v := by
  constructor <;> simp [go_sem]
theorem Zero3.put {Y : World} {N : Nat} (h : Zero3 Y N) (now sq : Int) (v : Value) : Nx (((Y.setCell ⟨N, 0, none⟩ (.int .i64 now)).setCell ⟨N, 1, none⟩ (.int .i64 sq)).setCell ⟨N, 2, none⟩ v) N now sq v := by
  obtain ⟨b0, b1, b2, f0, f1, f2, l1⟩ := h
  constructor <;> simp [go_sem, b0, b1, b2, f2, l1]
theorem split_n (now sq : Int) (ao : Option Addr) (n cap : Nat) (ts : List T3) (time : Int) (S : List Nat) (w : World) (hn : ts.length = n) (hl : n ≤ 1040000) (hz : TimersIn w.heap.size w ao ts) (hp : S.Perm (List.range n)) (hs : S.Pairwise (fun a b => ltT ts a b = true)) :
    Calls Try.prog 48 #[.agg #[.int .i64 now, .int .i64 sq, .slice ao n cap], .int .i64 time] w fun e w' => (∃ vd vl, e = .returned (.tuple #[vd, vl]) ∧ OwnV w.heap.size w' vd (dueL ts time S) ∧ OwnV w.heap.size w' vl (latL ts time S)) ∧ Below w.heap.size w w' := by
  subst hn; exact split_any now sq ao cap ts time S w hl hz hp hs
theorem box_S {W : World} {p : Nat} {now sq : Int} {v : Value} (h : Boxes W p now sq v) : W.drew.cell? ⟨p, 0, none⟩ = some (.int .i64 now) ∧ W.drew.cell? ⟨p, 1, none⟩ = some (.int .i64 sq) := ⟨h.b0, h.b1⟩

set_option maxRecDepth 100000 in
set_option maxHeartbeats 8000000 in
theorem withTimer_any (now sq : Int) (ao : Option Addr) (cap : Nat) (ts : List T3) (id d : Int) (w : World) (hl : ts.length ≤ 1030000) (hn : I64 now) (hd : I64 d) (hsq : sq ≤ 1000000) (hsq0 : 0 ≤ sq) (hz : TimersIn w.heap.size w ao ts) (S : List Nat) (hS : S.Perm (List.range (ts.length + 1))) (hso : S.Pairwise (fun a b => ltT (ts ++ [(id, laterI now d, sq + 1)]) a b = true)) :
    Calls Try.prog 43 #[.agg #[.int .i64 now, .int .i64 sq, .slice ao ts.length cap], .int .i64 id, .int .i64 d] w fun e w' => AnsC w.heap.size now (sq + 1) (dueL (ts ++ [(id, laterI now d, sq + 1)]) 9223372036854775807 S) e w' ∧ Below w.heap.size w w' := by
  obtain ⟨a, ha⟩ : ∃ a, a = laterI now d := ⟨_, rfl⟩
  rw [← ha] at hso ⊢
  have HA : Hid (a = laterI now d) := ha
  have HS : Hid (S.Perm (List.range (ts.length + 1)) ∧ S.Pairwise (fun x y => ltT (ts ++ [(id, a, sq + 1)]) x y = true)) := ⟨hS, hso⟩
  clear ha hS hso
  obtain ⟨D, hD⟩ : ∃ D, D = dueL (ts ++ [(id, a, sq + 1)]) 9223372036854775807 S := ⟨_, rfl⟩
  rw [← hD]
  have HD : Hid (D = dueL (ts ++ [(id, a, sq + 1)]) 9223372036854775807 S) := hD
  clear hD
  obtain ⟨W2, hW2⟩ : ∃ W2, W2 = (w.alloc (.cells #[.int .i64 now, .int .i64 sq, .slice ao ts.length cap] 29)).alloc (.cells #[.int .i64 0, .int .i64 0, .slice none 0 0] 29) := ⟨_, rfl⟩
  have hB2 : Below w.heap.size w W2 := by rw [hW2]; exact below2 _ _ _
  have hs2 : W2.heap.size = w.heap.size + 1 + 1 := by rw [hW2]; simp
  have X2 : Boxes W2 w.heap.size now sq (.slice ao ts.length cap) := by rw [hW2]; exact Boxes.new _ _ _ _
  have HW : Hid (W2 = (w.alloc (.cells #[.int .i64 now, .int .i64 sq, .slice ao ts.length cap] 29)).alloc (.cells #[.int .i64 0, .int .i64 0, .slice none 0 0] 29)) := hW2
  obtain ⟨b0, b1, b2, bf0, bf1, bf2, r0, r1, r2, f0, f1, f2, l1⟩ := _root_.id X2
  have HWR : Hid (IntKind.i64.wrap (sq + 1) = sq + 1) := by rw [Hid, IntKind.wrap_i64]; omega
  clear hW2
  go_enter Try.func43, Try.ntmps43
  go_wp2
  rw [← HW.out]
  go_region_held3 (fun X => X.cell? ⟨w.heap.size, 0, none⟩ = some (.int .i64 now) ∧ X.cell? ⟨w.heap.size, 1, none⟩ = some (.int .i64 sq)) (first | exact ⟨b0, b1⟩ | exact ⟨(X2.alloc _).b0, (X2.alloc _).b1⟩ | exact ⟨(X2.drew.alloc _).b0, (X2.drew.alloc _).b1⟩ | exact ⟨(X2.alloc _).drew.b0, (X2.alloc _).drew.b1⟩ | assumption | go_keep)
    (first | (go_at_call 16; refine (implLater_any now d _ hn hd).mono ?_; rintro e w1 ⟨rfl, rfl⟩; rw [← HA.out]))
  all_goals
    go_wp2
    rw [HWR.out]
    obtain ⟨W3, hW3⟩ : ∃ W3, W3 = (W2.alloc (.cells #[.int .i64 id, .int .i64 a, .int .i64 (sq + 1)] 51)).drew := ⟨_, rfl⟩
    rw [← hW3]
    have hs3 : W3.heap.size = w.heap.size + 1 + 1 + 1 := by rw [hW3]; simp [hs2]
    have hb23 : Below W2.heap.size W2 W3 := by rw [hW3]; exact (below1 _ _).drew
    have hB3 : Below w.heap.size w W3 := hB2.trans (hb23.mono hB2.size)
    have X3 : Boxes W3 w.heap.size now sq (.slice ao ts.length cap) := X2.later hb23
    have t0 : W3.cell? ⟨w.heap.size + 1 + 1, 0, none⟩ = some (.int .i64 id) := by rw [hW3, ← hs2]; simp
    have t1 : W3.cell? ⟨w.heap.size + 1 + 1, 1, none⟩ = some (.int .i64 a) := by rw [hW3, ← hs2]; simp
    have t2 : W3.cell? ⟨w.heap.size + 1 + 1, 2, none⟩ = some (.int .i64 (sq + 1)) := by rw [hW3, ← hs2]; simp
    have HK : Hid (∀ X, Below W3.heap.size W3 X → X.cell? ⟨w.heap.size, 0, none⟩ = some (.int .i64 now) ∧ X.cell? ⟨w.heap.size, 2, none⟩ = some (.slice ao ts.length cap) ∧ X.cell? ⟨w.heap.size + 1 + 1, 0, none⟩ = some (.int .i64 id) ∧ X.cell? ⟨w.heap.size + 1 + 1, 1, none⟩ = some (.int .i64 a) ∧ X.cell? ⟨w.heap.size + 1 + 1, 2, none⟩ = some (.int .i64 (sq + 1))) := fun X h => ⟨(X3.later h).b0, (X3.later h).b2, (h.cell (p := ⟨w.heap.size + 1 + 1, 0, none⟩) (by simp [hs3])).trans t0, (h.cell (p := ⟨w.heap.size + 1 + 1, 1, none⟩) (by simp [hs3])).trans t1, (h.cell (p := ⟨w.heap.size + 1 + 1, 2, none⟩) (by simp [hs3])).trans t2⟩
    have HZ : Hid (∀ X, Below W3.heap.size W3 X → TimersIn X.heap.size X ao ts) := fun X h => hz.later (hB3.trans (h.mono hB3.size))
    have HS3 : Hid (W3.heap.size = w.heap.size + 1 + 1 + 1) := hs3
    have hs3a : w.heap.size + 1 + 1 < W3.heap.size := by omega
    clear hs3 hW3 hb23 X2 b0 b1 b2 bf0 bf1 bf2 r0 r1 r2 f0 f1 f2 l1
    go_region_held3 (fun X => X.cell? ⟨w.heap.size, 0, none⟩ = some (.int .i64 now) ∧ X.cell? ⟨w.heap.size, 2, none⟩ = some (.slice ao ts.length cap) ∧ X.cell? ⟨w.heap.size + 1 + 1, 0, none⟩ = some (.int .i64 id) ∧ X.cell? ⟨w.heap.size + 1 + 1, 1, none⟩ = some (.int .i64 a) ∧ X.cell? ⟨w.heap.size + 1 + 1, 2, none⟩ = some (.int .i64 (sq + 1))) (exact HK.out _ (by repeat (first | assumption | exact Below.refl _ _ | refine Below.allocS ?_ _ | refine Below.drew ?_ | refine Below.setCell ?_ (by first | (simp; done) | (have := hb35.size; simp; omega)) _)))
      (first
        | (go_at_call 53; refine (queueOfC_any ao cap ts _ (by omega) (HZ.out _ (by repeat (first | assumption | exact Below.refl _ _ | refine Below.allocS ?_ _ | refine Below.drew ?_)))).mono ?_; rintro e w5 ⟨⟨to, rfl, hT5⟩, hb5⟩; have hb35 : Below W3.heap.size W3 w5 := Below.trans (by repeat (first | assumption | exact Below.refl _ _ | refine Below.allocS ?_ _ | refine Below.drew ?_)) (hb5.mono (by first | omega | (simp; omega) | simp)); have HT5 : Hid (TimersIn w5.heap.size w5 to ts) := hT5.timers; (try (have hZ5 : Zero3 w5 W3.heap.size := (by first | exact (Zero3.new W3.drew).later hb5 | exact (Zero3.new W3).drew.later hb5); obtain ⟨_, _, _, _, _, _, _⟩ := _root_.id hZ5)))
        | (go_at_call 54; refine (with_any to ts.length ts id a (sq + 1) _ (by omega) (by first | exact HT5.out | exact HT5.out.later (below1 _ _))).mono ?_; rintro e w6 ⟨⟨go, rfl, hF6⟩, hb6⟩; have hb36 : Below W3.heap.size W3 w6 := Below.trans (by repeat (first | assumption | exact Below.refl _ _ | refine Below.allocS ?_ _ | refine Below.drew ?_)) (hb6.mono (by have := hb35.size; first | omega | (simp; omega) | simp)); have hfld := run_field67 go (ts.length + 1) (ts.length + 1); (try (first | (have hZ6 : Zero3 w6 W3.heap.size := hZ5.later hb6; obtain ⟨_, _, _, _, _, _, _⟩ := _root_.id hZ6) | (have hZ6 : Zero3 w6 w5.heap.size := (Zero3.new w5).later hb6; obtain ⟨_, _, _, _, _, _, _⟩ := _root_.id hZ6)))))
    · go_wp2_with fail
      obtain ⟨Wn, hWn⟩ : ∃ Wn, Wn = w6.alloc (.cells #[.int .i64 now, .int .i64 (sq + 1), .slice go (ts.length + 1) (ts.length + 1)] 29) := ⟨_, rfl⟩
      rw [← hWn]
      have hNx : Nx Wn w6.heap.size now (sq + 1) (.slice go (ts.length + 1) (ts.length + 1)) := by rw [hWn]; exact Nx.new _ _ _ _
      have hbn : Below W3.heap.size W3 Wn := by rw [hWn]; exact Below.allocS hb36 _
      have hTn : TimersIn Wn.heap.size Wn go (ts ++ [(id, a, sq + 1)]) := by rw [hWn]; exact hF6.timers.later (below1 _ _)
      have hNl : w.heap.size + 1 + 1 < w6.heap.size := by have := hb36.size; omega
      have HT : Hid (TimersIn Wn.heap.size Wn go (ts ++ [(id, a, sq + 1)])) := hTn
      clear hWn hTn
      generalize w6.heap.size = N at hNx hNl ⊢
      refine (split_n now (sq + 1) go (ts.length + 1) (ts.length + 1) (ts ++ [(id, a, sq + 1)]) 9223372036854775807 S Wn (by simp) (by omega) HT.out HS.out.1 HS.out.2).mono ?_
      rintro e w8 ⟨⟨vd, vl, rfl, hOd, _⟩, hb8⟩
      rw [← HD.out] at hOd
      obtain ⟨to8, tc8, rfl, hF8, _⟩ := hOd.fresh
      obtain ⟨n0, n1, n2, nf, nl⟩ := hNx.later hb8
      have hb38 : Below W3.heap.size W3 w8 := hbn.trans (hb8.mono hbn.size)
      obtain ⟨p0, p1, p2, pf0, pf1, pf2, u0, u1, u2, v0, v1, v2, l8⟩ := X3.later hb38
      have hB8 : Below w.heap.size w w8 := hB3.trans (hb38.mono hB3.size)
      have HF8 : Hid (FreshC Wn.heap.size w8.heap.size w8 to8 tc8 D) := hF8
      have hnn := hNx.lt
      have hss := hbn.size
      clear hF8 hOd hb8 hb38 hNx
      have hNp : ¬ N = w.heap.size + 1 := by omega
      have hNp' : ¬ w.heap.size + 1 = N := by omega
      go_wp2
      refine bodyPost_ret (v := .agg #[.int .i64 now, .int .i64 (sq + 1), .slice to8 D.length tc8]) (by simp [results, Try.results43, go_sem, u0, u1, u2]) rfl ⟨⟨to8, tc8, rfl, ?_⟩, ?_⟩
      · exact ((((HF8.out.setBelow (a := ⟨N, 2, none⟩) (by simp; omega) _).setBelow (a := ⟨w.heap.size + 1, 0, none⟩) (by simp; omega) _).setBelow (a := ⟨w.heap.size + 1, 1, none⟩) (by simp; omega) _).setBelow (a := ⟨w.heap.size + 1, 2, none⟩) (by simp; omega) _).wide (by omega) (by simp)
      · exact (((hB8.setCell (p := ⟨N, 2, none⟩) (by simp; omega) _).setCell (p := ⟨w.heap.size + 1, 0, none⟩) (by simp) _).setCell (p := ⟨w.heap.size + 1, 1, none⟩) (by simp) _).setCell (p := ⟨w.heap.size + 1, 2, none⟩) (by simp) _
    · go_wp2_with fail
      obtain ⟨Wn, hWn⟩ : ∃ Wn, Wn = ((w6.setCell ⟨w5.heap.size, 0, none⟩ (.int .i64 now)).setCell ⟨w5.heap.size, 1, none⟩ (.int .i64 (sq + 1))).setCell ⟨w5.heap.size, 2, none⟩ (.slice go (ts.length + 1) (ts.length + 1)) := ⟨_, rfl⟩
      rw [← hWn]
      have hNx : Nx Wn w5.heap.size now (sq + 1) (.slice go (ts.length + 1) (ts.length + 1)) := by rw [hWn]; exact hZ6.put _ _ _
      have hbn : Below W3.heap.size W3 Wn := by rw [hWn]; exact ((hb36.setCell (p := ⟨w5.heap.size, 0, none⟩) (by have := hb35.size; simp; omega) _).setCell (p := ⟨w5.heap.size, 1, none⟩) (by have := hb35.size; simp; omega) _).setCell (p := ⟨w5.heap.size, 2, none⟩) (by have := hb35.size; simp; omega) _
      have hTn : TimersIn Wn.heap.size Wn go (ts ++ [(id, a, sq + 1)]) := by rw [hWn]; exact (((hF6.setBelow (a := ⟨w5.heap.size, 0, none⟩) (by simp) _).setBelow (a := ⟨w5.heap.size, 1, none⟩) (by simp) _).setBelow (a := ⟨w5.heap.size, 2, none⟩) (by simp) _).timers
      have hNl : w.heap.size + 1 + 1 < w5.heap.size := by have := hb35.size; omega
      have HT : Hid (TimersIn Wn.heap.size Wn go (ts ++ [(id, a, sq + 1)])) := hTn
      clear hWn hTn
      generalize w5.heap.size = N at hNx hNl ⊢
      refine (split_n now (sq + 1) go (ts.length + 1) (ts.length + 1) (ts ++ [(id, a, sq + 1)]) 9223372036854775807 S Wn (by simp) (by omega) HT.out HS.out.1 HS.out.2).mono ?_
      rintro e w8 ⟨⟨vd, vl, rfl, hOd, _⟩, hb8⟩
      rw [← HD.out] at hOd
      obtain ⟨to8, tc8, rfl, hF8, _⟩ := hOd.fresh
      obtain ⟨n0, n1, n2, nf, nl⟩ := hNx.later hb8
      have hb38 : Below W3.heap.size W3 w8 := hbn.trans (hb8.mono hbn.size)
      obtain ⟨p0, p1, p2, pf0, pf1, pf2, u0, u1, u2, v0, v1, v2, l8⟩ := X3.later hb38
      have hB8 : Below w.heap.size w w8 := hB3.trans (hb38.mono hB3.size)
      have HF8 : Hid (FreshC Wn.heap.size w8.heap.size w8 to8 tc8 D) := hF8
      have hnn := hNx.lt
      have hss := hbn.size
      clear hF8 hOd hb8 hb38 hNx
      have hNp : ¬ N = w.heap.size + 1 := by omega
      have hNp' : ¬ w.heap.size + 1 = N := by omega
      go_wp2
      refine bodyPost_ret (v := .agg #[.int .i64 now, .int .i64 (sq + 1), .slice to8 D.length tc8]) (by simp [results, Try.results43, go_sem, u0, u1, u2]) rfl ⟨⟨to8, tc8, rfl, ?_⟩, ?_⟩
      · exact ((((HF8.out.setBelow (a := ⟨N, 2, none⟩) (by simp; omega) _).setBelow (a := ⟨w.heap.size + 1, 0, none⟩) (by simp; omega) _).setBelow (a := ⟨w.heap.size + 1, 1, none⟩) (by simp; omega) _).setBelow (a := ⟨w.heap.size + 1, 2, none⟩) (by simp; omega) _).wide (by omega) (by simp)
      · exact (((hB8.setCell (p := ⟨N, 2, none⟩) (by simp; omega) _).setCell (p := ⟨w.heap.size + 1, 0, none⟩) (by simp) _).setCell (p := ⟨w.heap.size + 1, 1, none⟩) (by simp) _).setCell (p := ⟨w.heap.size + 1, 2, none⟩) (by simp) _
    · go_wp2_with fail
      obtain ⟨Wn, hWn⟩ : ∃ Wn, Wn = ((w6.setCell ⟨W3.heap.size, 0, none⟩ (.int .i64 now)).setCell ⟨W3.heap.size, 1, none⟩ (.int .i64 (sq + 1))).setCell ⟨W3.heap.size, 2, none⟩ (.slice go (ts.length + 1) (ts.length + 1)) := ⟨_, rfl⟩
      rw [← hWn]
      have hNx : Nx Wn W3.heap.size now (sq + 1) (.slice go (ts.length + 1) (ts.length + 1)) := by rw [hWn]; exact hZ6.put _ _ _
      have hbn : Below W3.heap.size W3 Wn := by rw [hWn]; exact ((hb36.setCell (p := ⟨W3.heap.size, 0, none⟩) (by simp) _).setCell (p := ⟨W3.heap.size, 1, none⟩) (by simp) _).setCell (p := ⟨W3.heap.size, 2, none⟩) (by simp) _
      have hTn : TimersIn Wn.heap.size Wn go (ts ++ [(id, a, sq + 1)]) := by rw [hWn]; exact (((hF6.setBelow (a := ⟨W3.heap.size, 0, none⟩) (by have := hZ5.lt; simpa using this) _).setBelow (a := ⟨W3.heap.size, 1, none⟩) (by have := hZ5.lt; simpa using this) _).setBelow (a := ⟨W3.heap.size, 2, none⟩) (by have := hZ5.lt; simpa using this) _).timers
      have hNl : w.heap.size + 1 + 1 < W3.heap.size := hs3a
      have HT : Hid (TimersIn Wn.heap.size Wn go (ts ++ [(id, a, sq + 1)])) := hTn
      clear hWn hTn
      generalize W3.heap.size = N at hNx hNl ⊢
      refine (split_n now (sq + 1) go (ts.length + 1) (ts.length + 1) (ts ++ [(id, a, sq + 1)]) 9223372036854775807 S Wn (by simp) (by omega) HT.out HS.out.1 HS.out.2).mono ?_
      rintro e w8 ⟨⟨vd, vl, rfl, hOd, _⟩, hb8⟩
      rw [← HD.out] at hOd
      obtain ⟨to8, tc8, rfl, hF8, _⟩ := hOd.fresh
      obtain ⟨n0, n1, n2, nf, nl⟩ := hNx.later hb8
      have hb38 : Below W3.heap.size W3 w8 := hbn.trans (hb8.mono hbn.size)
      obtain ⟨p0, p1, p2, pf0, pf1, pf2, u0, u1, u2, v0, v1, v2, l8⟩ := X3.later hb38
      have hB8 : Below w.heap.size w w8 := hB3.trans (hb38.mono hB3.size)
      have HF8 : Hid (FreshC Wn.heap.size w8.heap.size w8 to8 tc8 D) := hF8
      have hnn := hNx.lt
      have hss := hbn.size
      clear hF8 hOd hb8 hb38 hNx
      have hNp : ¬ N = w.heap.size + 1 := by omega
      have hNp' : ¬ w.heap.size + 1 = N := by omega
      go_wp2
      refine bodyPost_ret (v := .agg #[.int .i64 now, .int .i64 (sq + 1), .slice to8 D.length tc8]) (by simp [results, Try.results43, go_sem, u0, u1, u2]) rfl ⟨⟨to8, tc8, rfl, ?_⟩, ?_⟩
      · exact ((((HF8.out.setBelow (a := ⟨N, 2, none⟩) (by simp; omega) _).setBelow (a := ⟨w.heap.size + 1, 0, none⟩) (by simp; omega) _).setBelow (a := ⟨w.heap.size + 1, 1, none⟩) (by simp; omega) _).setBelow (a := ⟨w.heap.size + 1, 2, none⟩) (by simp; omega) _).wide (by omega) (by simp)
      · exact (((hB8.setCell (p := ⟨N, 2, none⟩) (by simp; omega) _).setCell (p := ⟨w.heap.size + 1, 0, none⟩) (by simp) _).setCell (p := ⟨w.heap.size + 1, 1, none⟩) (by simp) _).setCell (p := ⟨w.heap.size + 1, 2, none⟩) (by simp) _
end Go.Proofs.Ytmjjjckjmfekcaa
