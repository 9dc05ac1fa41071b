/- Stop: the program's and the specification's. No conditions but those written. -/
import Derived.Test.YtmjjjckjmfekcaaDe
import Derived.Test.YtmjjjckjmfekcaaCb
import Derived.Test.YtmjjjckjmfekcaaCc
namespace Go.Proofs.Ytmjjjckjmfekcaa
open Go.RowKit

theorem run_field67 (a : Option Addr) (n c : Nat) (w : World) : (Instr.field 67 (.agg #[.slice a n c]) 0).run Try.prog w = .ok (.slice a n c) w := by
  simp [Instr.field, go_sem, run_underlying Try.underlying67, asAgg]

/-- A clock that is box p's, and where a result is to be laid. -/
structure Boxes (W : World) (p : Nat) (now sq : Int) (v : Value) : Prop where
  b0 : W.cell? ⟨p, 0, none⟩ = some (.int .i64 now)
  b1 : W.cell? ⟨p, 1, none⟩ = some (.int .i64 sq)
  b2 : W.cell? ⟨p, 2, none⟩ = some v
  bf0 : W.frozen? ⟨p, 0, none⟩ = false
  bf1 : W.frozen? ⟨p, 1, none⟩ = false
  bf2 : W.frozen? ⟨p, 2, none⟩ = false
  r0 : W.cell? ⟨p + 1, 0, none⟩ = some (.int .i64 0)
  r1 : W.cell? ⟨p + 1, 1, none⟩ = some (.int .i64 0)
  r2 : W.cell? ⟨p + 1, 2, none⟩ = some (.slice none 0 0)
  f0 : W.frozen? ⟨p + 1, 0, none⟩ = false
  f1 : W.frozen? ⟨p + 1, 1, none⟩ = false
  f2 : W.frozen? ⟨p + 1, 2, none⟩ = false
  lt : p + 1 < W.heap.size
theorem Boxes.new (w : World) (now sq : Int) (v : Value) : Boxes ((w.alloc (.cells #[.int .i64 now, .int .i64 sq, v] 29)).alloc (.cells #[.int .i64 0, .int .i64 0, .slice none 0 0] 29)) w.heap.size now sq v := by
  constructor <;> simp [go_sem]
theorem Boxes.later {W W' : World} {p : Nat} {now sq : Int} {v : Value} (h : Boxes W p now sq v) (hb : Below W.heap.size W W') : Boxes W' p now sq v := by
  have l0 : p < W.heap.size := by have := h.lt; omega
  have l1 := h.lt
  exact ⟨(hb.cell (p := ⟨p, 0, none⟩) l0).trans h.b0, (hb.cell (p := ⟨p, 1, none⟩) l0).trans h.b1, (hb.cell (p := ⟨p, 2, none⟩) l0).trans h.b2, (hb.frozen (p := ⟨p, 0, none⟩) l0).trans h.bf0, (hb.frozen (p := ⟨p, 1, none⟩) l0).trans h.bf1, (hb.frozen (p := ⟨p, 2, none⟩) l0).trans h.bf2,
    (hb.cell (p := ⟨p + 1, 0, none⟩) l1).trans h.r0, (hb.cell (p := ⟨p + 1, 1, none⟩) l1).trans h.r1, (hb.cell (p := ⟨p + 1, 2, none⟩) l1).trans h.r2, (hb.frozen (p := ⟨p + 1, 0, none⟩) l1).trans h.f0, (hb.frozen (p := ⟨p + 1, 1, none⟩) l1).trans h.f1, (hb.frozen (p := ⟨p + 1, 2, none⟩) l1).trans h.f2, Nat.lt_of_lt_of_le l1 hb.size⟩
theorem Boxes.drew {W : World} {p : Nat} {now sq : Int} {v : Value} (h : Boxes W p now sq v) : Boxes W.drew p now sq v := ⟨h.b0, h.b1, h.b2, h.bf0, h.bf1, h.bf2, h.r0, h.r1, h.r2, h.f0, h.f1, h.f2, h.lt⟩

set_option maxHeartbeats 4000000 in
theorem withoutTimer_any (now sq : Int) (ao : Option Addr) (cap : Nat) (ts : List T3) (pl : Int) (w : World) (hl : ts.length ≤ 1048576) (hz : TimersIn w.heap.size w ao ts) (R : List T3) (hR : R = keepN ts pl (List.range ts.length)) :
    Calls Try.prog 47 #[.agg #[.int .i64 now, .int .i64 sq, .slice ao ts.length cap], .int .i64 pl] w fun e w' => AnsC w.heap.size now sq R e w' ∧ Below w.heap.size w w' := by
  obtain ⟨W2, hW2⟩ : ∃ W2, W2 = (w.alloc (.cells #[.int .i64 now, .int .i64 sq, .slice ao ts.length cap] 29)).alloc (.cells #[.int .i64 0, .int .i64 0, .slice none 0 0] 29) := ⟨_, rfl⟩
  have hB2 : Below w.heap.size w W2 := by rw [hW2]; exact below2 _ _ _
  have hs2 : W2.heap.size = w.heap.size + 1 + 1 := by rw [hW2]; simp
  have X2 : Boxes W2 w.heap.size now sq (.slice ao ts.length cap) := by rw [hW2]; exact Boxes.new _ _ _ _
  have hW2' : Hid (W2 = (w.alloc (.cells #[.int .i64 now, .int .i64 sq, .slice ao ts.length cap] 29)).alloc (.cells #[.int .i64 0, .int .i64 0, .slice none 0 0] 29)) := hW2
  have HR : Hid (R = keepN ts pl (List.range ts.length)) := hR
  obtain ⟨b0, b1, b2, bf0, bf1, bf2, r0, r1, r2, f0, f1, f2, l1⟩ := id X2
  have hfl := run_field67
  have hrl : Hid (R.length ≤ 1048576) := by rw [hR, Hid]; exact Nat.le_trans (keepN_len _ _ _) (by simpa using hl)
  clear hW2 hR
  go_enter Try.func47, Try.ntmps47
  go_wp2
  rw [← hW2'.out]
  go_region_with (first
    | (go_at_call 53; refine (queueOfC_any ao cap ts _ hl (by exact hz.later hB2.drew)).mono ?_; rintro e w1 ⟨⟨to, rfl, hT⟩, hb1⟩; have hB1 : Below w.heap.size w w1 := hB2.drew.trans (hb1.mono hB2.size); have X1 : Boxes w1 w.heap.size now sq (.slice ao ts.length cap) := Boxes.later (W := W2.drew) X2.drew hb1; obtain ⟨c0, c1, c2, _, _, _, m0, m1, m2, n0, n1, n2, o1⟩ := id X1; have HT : Hid (TimersIn w1.heap.size w1 to ts) := hT.timers; clear hT)
    | (go_at_call 55; refine (without_any to ts.length ts pl w1 hl HT.out R HR.out).mono ?_; rintro e w3 ⟨⟨go, qc, rfl, hF⟩, hb3⟩; have hB3 : Below w.heap.size w w3 := hB1.trans (hb3.mono hB1.size); have X3 := X1.later hb3; obtain ⟨d0, d1, d2, _, _, _, q0, q1, q2, s0, s1, s2, t1⟩ := id X3; have HF : Hid (FreshC (w.heap.size + 1 + 1) w3.heap.size w3 go qc R) := hF.wide (by omega) (Nat.le_refl _); clear hF; have hfld := run_field67 go R.length qc w3))
  all_goals
    go_wp2
    refine bodyPost_ret (v := .agg #[.int .i64 now, .int .i64 sq, .slice go R.length qc]) (by simp [results, Try.results47, go_sem, q0, q1, q2]) rfl ⟨⟨go, qc, rfl, ?_⟩, ?_⟩
    · exact (((HF.out.setBelow (a := ⟨w.heap.size + 1, 0, none⟩) (by simp) _).setBelow (a := ⟨w.heap.size + 1, 1, none⟩) (by simp) _).setBelow (a := ⟨w.heap.size + 1, 2, none⟩) (by simp) _).wide (by omega) (by simp)
    · exact ((hB3.setCell (p := ⟨w.heap.size + 1, 0, none⟩) (by simp) _).setCell (p := ⟨w.heap.size + 1, 1, none⟩) (by simp) _).setCell (p := ⟨w.heap.size + 1, 2, none⟩) (by simp) _
end Go.Proofs.Ytmjjjckjmfekcaa
