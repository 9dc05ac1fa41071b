
/- The heap's look for the first of three places. No conditions but those written. -/
import Derived.Test.YtpbgkkemaioidaaOHb
import Derived.Deep.RegionHeld3
namespace Go.Proofs.Ytpbgkkemaioidaa.Old
open Go.RowKit

theorem fires_is (now sq : Int) (ao : Option Addr) (cap : Nat) (ts : List T3) (x y : Nat) (w : World) (r : Bool) (hx : x < ts.length) (hy : y < ts.length) (hz : TimersIn w.heap.size w ao ts) (h : ltT ts x y = r) :
    Calls Try.prog 33 #[.agg #[.int .i64 now, .int .i64 sq, .slice ao ts.length cap], .int .i64 (x : Int), .int .i64 (y : Int)] w fun e w' => e = .returned (.bool r) ∧ Below w.heap.size w w' := by
  subst h; exact fires_any now sq ao cap ts x y w hx hy hz

/-- The order's value: bound to its clock. -/
def ordV (now sq : Int) (ao : Option Addr) (n cap : Nat) : Value := .func (.func 33) #[.agg #[.int .i64 now, .int .i64 sq, .slice ao n cap]] #[]

set_option maxRecDepth 100000 in
set_option maxHeartbeats 4000000 in
theorem firstOf_any (lo H g cap : Nat) (xs : List Nat) (a : Nat) (now sq : Int) (ao : Option Addr) (tcap : Nat) (ts : List T3) (w : World) (hl : xs.length ≤ 1048576) (ha : a ≤ 1048576) (hlt : H < w.heap.size) (hgl : g < w.heap.size)
    (hH : w.cell? ⟨H, 0, none⟩ = some (.slice (some ⟨g, 0, none⟩) xs.length cap)) (hF : w.cell? ⟨H, 1, none⟩ = some (.func (.func 33) #[.agg #[.int .i64 now, .int .i64 sq, .slice ao ts.length tcap]] #[]))
    (ho : OwnP lo w (.slice (some ⟨g, 0, none⟩) xs.length cap) xs) (hp : ∀ i, i < xs.length → pl xs i < ts.length) (hz : TimersIn w.heap.size w ao ts) :
    Calls Try.prog 36 #[.pointer (some ⟨H, 0, none⟩), .int .i64 (a : Int)] w fun e w' => (∃ f B : Nat, e = .returned (.int .i64 (f : Int)) ∧ FirstOf (ltT ts) xs a f B ∧ (2 * a + 2 < B ∨ xs.length ≤ B)) ∧ Below w.heap.size w w' := by
  have sw := ltT_sw ts
  have HO : Hid (OwnP lo w (.slice (some ⟨g, 0, none⟩) xs.length cap) xs) := ho
  have HP : Hid (∀ i, i < xs.length → pl xs i < ts.length) := hp
  clear ho hp
  go_enter Try.func36, Try.ntmps36
  go_wp2
  go_loopw [5, 6] (fun f b wr => ∃ k m : Nat, f = .int .i64 (k : Int) ∧ b = .int .i64 (m : Int) ∧ 2 * a + 1 ≤ m ∧ m ≤ 2 * a + 3 ∧ Hid (FirstOf (ltT ts) xs a k m) ∧ Below w.heap.size w wr) (fun _ b _ => 2 * a + 3 - (intOf b).toNat)
  case atStart => exact ⟨a, 2 * a + 1, rfl, by go_num, by omega, by omega, FirstOf.start xs a, Below.refl _ _⟩
  case round =>
    obtain ⟨k, m, rfl, rfl, hm1, hm2, hfo, hB⟩ := hrel
    have c0 := (hB.cell (p := ⟨H, 0, none⟩) hlt).trans hH
    have c1 := (hB.cell (p := ⟨H, 1, none⟩) hlt).trans hF
    by_cases h2 : m ≤ 2 * a + 2
    · have h2i : (m : Int) ≤ 2 * (a : Int) + 2 := by omega
      by_cases hmn : m < xs.length
      · have hmi : (m : Int) < (xs.length : Int) := by omega
        have hkn : k < xs.length := by
          rcases hfo.out.1 with e | ⟨h, _⟩
          · omega
          · exact h
        have hki : (k : Int) < (xs.length : Int) := by omega
        have d0 := (hB.cell (p := ⟨g, m, none⟩) hgl).trans (HO.out.cell m hmn)
        have d1 := (hB.cell (p := ⟨g, k, none⟩) hgl).trans (HO.out.cell k hkn)
        have hpm := HP.out m hmn
        have hpk := HP.out k hkn
        have hltr : H < wr.drew.heap.size := Nat.lt_of_lt_of_le hlt hB.size
        have hglr : g < wr.drew.heap.size := Nat.lt_of_lt_of_le hgl hB.size
        obtain ⟨pm, epm⟩ : ∃ p, p = pl xs m := ⟨_, rfl⟩
        obtain ⟨pk, epk⟩ : ∃ p, p = pl xs k := ⟨_, rfl⟩
        rw [← epm] at d0 hpm
        rw [← epk] at d1 hpk
        cases hl' : ltT ts pm pk
        · have HL : Hid (ltT ts pm pk = false) := hl'
          have HK : Hid (FirstOf (ltT ts) xs a k (m + 1)) := hfo.out.keep (by rw [← epm, ← epk]; exact hl')
          clear hl' epm epk
          go_wp2
          go_region_held3 (fun X => X.cell? ⟨H, 0, none⟩ = some (.slice (some ⟨g, 0, none⟩) xs.length cap) ∧ X.cell? ⟨H, 1, none⟩ = some (.func (.func 33) #[.agg #[.int .i64 now, .int .i64 sq, .slice ao ts.length tcap]] #[]) ∧ X.cell? ⟨g, m, none⟩ = some (.int .i64 (pm : Int)) ∧ X.cell? ⟨g, k, none⟩ = some (.int .i64 (pk : Int))) (first | exact ⟨c0, c1, d0, d1⟩ | exact ⟨(hb1.cell (p := ⟨H, 0, none⟩) hltr).trans c0, (hb1.cell (p := ⟨H, 1, none⟩) hltr).trans c1, (hb1.cell (p := ⟨g, m, none⟩) hglr).trans d0, (hb1.cell (p := ⟨g, k, none⟩) hglr).trans d1⟩)
            (first | (go_at_call 33; refine (fires_is now sq ao tcap ts pm pk _ false hpm hpk (by exact hz.later hB.drew) HL.out).mono ?_; rintro e w1 ⟨rfl, hb1⟩; have hB1 : Below w.heap.size w w1 := hB.drew.trans (hb1.mono hB.size)))
          all_goals
            go_wp2
            go_roundw
            case rel => exact ⟨k, m + 1, rfl, by go_num, by omega, by omega, HK.out, hB1⟩
            case measure => simp [intOf]; omega
        · have HL : Hid (ltT ts pm pk = true) := hl'
          have HK : Hid (FirstOf (ltT ts) xs a m (m + 1)) := hfo.out.take sw hmn ⟨by omega, by omega⟩ (by rw [← epm, ← epk]; exact hl')
          clear hl' epm epk
          go_wp2
          go_region_held3 (fun X => X.cell? ⟨H, 0, none⟩ = some (.slice (some ⟨g, 0, none⟩) xs.length cap) ∧ X.cell? ⟨H, 1, none⟩ = some (.func (.func 33) #[.agg #[.int .i64 now, .int .i64 sq, .slice ao ts.length tcap]] #[]) ∧ X.cell? ⟨g, m, none⟩ = some (.int .i64 (pm : Int)) ∧ X.cell? ⟨g, k, none⟩ = some (.int .i64 (pk : Int))) (first | exact ⟨c0, c1, d0, d1⟩ | exact ⟨(hb1.cell (p := ⟨H, 0, none⟩) hltr).trans c0, (hb1.cell (p := ⟨H, 1, none⟩) hltr).trans c1, (hb1.cell (p := ⟨g, m, none⟩) hglr).trans d0, (hb1.cell (p := ⟨g, k, none⟩) hglr).trans d1⟩)
            (first | (go_at_call 33; refine (fires_is now sq ao tcap ts pm pk _ true hpm hpk (by exact hz.later hB.drew) HL.out).mono ?_; rintro e w1 ⟨rfl, hb1⟩; have hB1 : Below w.heap.size w w1 := hB.drew.trans (hb1.mono hB.size)))
          all_goals
            go_wp2
            go_roundw
            case rel => exact ⟨m, m + 1, rfl, by go_num, by omega, by omega, HK.out, hB1⟩
            case measure => simp [intOf]; omega
      · have hmi : decide ((m : Int) < (xs.length : Int)) = false := by simp; omega
        go_wp2
        go_ret
        exact ⟨⟨k, m, rfl, hfo.out, .inr (by omega)⟩, hB⟩
    · have h2i : decide ((m : Int) ≤ 2 * (a : Int) + 2) = false := by simp; omega
      go_wp2
      go_ret
      exact ⟨⟨k, m, rfl, hfo.out, .inl (by omega)⟩, hB⟩
end Go.Proofs.Ytpbgkkemaioidaa.Old
