
/- Merging: the program's parts. No conditions but those written. -/
import Derived.Test.YtnjnnilmelmmgaaVa
import Derived.Test.YtnjnnilmelmmgaaSk
namespace Go.Proofs.Ytnjnnilmelmmgaa
open Go.RowKit

abbrev Hd := Option Addr × Nat × Nat
/-- Heads with their rows: each row lies below n, its head tells its length, and its room is no less. -/
def RI (n : Nat) (W : World) (rs : List (Hd × List Int)) : Prop := ∀ r ∈ rs, r.1.2.1 = r.2.length ∧ r.1.2.1 ≤ r.1.2.2 ∧ kI.In n W r.1.1 r.2
def someR (rs : List (Hd × List Int)) : List (Hd × List Int) := rs.filter fun r => decide (0 < r.2.length)
theorem RI.some {n : Nat} {W : World} {rs : List (Hd × List Int)} (h : RI n W rs) : RI n W (someR rs) := fun r hr => h r (List.mem_filter.1 hr).1
theorem someR_snd (rs : List (Hd × List Int)) : (someR rs).map Prod.snd = nonE (rs.map Prod.snd) := by
  unfold someR nonE
  rw [List.filter_map]
  rfl
theorem someR_take {rs : List (Hd × List Int)} {k : Nat} (h : k < rs.length) : someR (rs.take (k + 1)) = someR (rs.take k) ++ (if 0 < (el rs k).2.length then [el rs k] else []) := by
  rw [take_succ_el h]
  unfold someR
  rw [List.filter_append]
  congr 1
  by_cases hx : 0 < (el rs k).2.length <;> simp [hx]
theorem someR_le (rs : List (Hd × List Int)) : (someR rs).length ≤ rs.length := List.length_filter_le _ _
theorem kR_one {n p : Nat} {W : World} {h : Hd} (hp : p < n) (hc : W.cell? ⟨p, 0, none⟩ = some (.slice h.1 h.2.1 h.2.2)) : kR.In n W (some ⟨p, 0, none⟩) [h] := by
  refine Kind.In.mk1 hp fun i hi => ?_
  have e : i = 0 := by have : i < 1 := hi; omega
  subst e
  exact hc
set_option maxHeartbeats 4000000 in
theorem those_any (ao : Option Addr) (cap : Nat) (rs : List (Hd × List Int)) (w : World) (hl : rs.length ≤ 1000) (hz : kR.In w.heap.size w ao (rs.map Prod.fst)) (hlen : ∀ r ∈ rs, r.1.2.1 = r.2.length) :
    Calls Try.prog 60 #[.slice ao rs.length cap] w fun e w' => (∃ o c, e = .returned (.slice o (someR rs).length c) ∧ (o = none → c = 0) ∧ kR.Fresh w.heap.size w'.heap.size w' o c ((someR rs).map Prod.fst)) ∧ Below w.heap.size w w' := by
  have HZ := hid hz
  have HL := hid hlen
  clear hz hlen
  go_enter Try.func60, Try.ntmps60
  go_wp2
  go_loopw [3, 8] (fun u i wr => ∃ (k : Nat) (v : Value), v = u ∧ k ≤ rs.length ∧ i = .int .i64 k ∧ Hid (kR.Own w.heap.size wr v ((someR (rs.take k)).map Prod.fst)) ∧ Below w.heap.size w wr) (fun _ i _ => rs.length - (intOf i).toNat)
  case atStart => exact ⟨0, _, rfl, Nat.zero_le _, rfl, Kind.Own.nil _ _ _, Below.refl _ _⟩
  case round =>
    obtain ⟨k, v, rfl, hk, rfl, hO, hB⟩ := hrel
    by_cases hlt : k < rs.length
    · obtain ⟨b, off, rfl, hb, hc⟩ := kR_at HZ.out (k := k) (by simpa using hlt)
      have d1 := (hB.cell (p := ⟨b, off + k, none⟩) hb).trans (hc k (by simpa using hlt))
      rw [el_map Prod.fst hlt] at d1
      have hle := HL.out _ (el_mem hlt)
      have HT := hid (someR_take hlt)
      obtain ⟨⟨⟨o, m, c⟩, x⟩, hx⟩ : ∃ r, r = el rs k := ⟨_, rfl⟩
      rw [← hx] at d1 hle HT
      dsimp only at d1 hle
      subst hle
      clear hx hc
      dsimp only at HT
      by_cases hpos : 0 < x.length
      · have hp' : decide ((0 : Int) < (x.length : Int)) = true := by simp; omega
        rw [if_pos hpos] at HT
        have HA : Hid (kR.Own w.heap.size (wr.alloc (.cells #[.slice o x.length c] 28)) v ((someR (rs.take k)).map Prod.fst)) := hO.out.below (below1 _ _)
        have HN : Hid (kR.In (wr.heap.size + 1) (wr.alloc (.cells #[.slice o x.length c] 28)) (some ⟨wr.heap.size, 0, none⟩) [(o, x.length, c)]) := kR_one (by omega) (by simp)
        have hll : ((someR (rs.take k)).map Prod.fst).length + 1 ≤ 4194304 := by
          have := someR_le (rs.take k)
          simp at this ⊢; omega
        have hBa := Below.allocS hB (.cells #[.slice o x.length c] 28)
        have hsw := hB.size
        go_wp2_with (at_builtin; refine Kind.app kR_ok (wr.alloc (.cells #[.slice o x.length c] 28)) rfl (.tmp 15) (.tmp 17) rfl w.heap.size v ((someR (rs.take k)).map Prod.fst) rfl HA.out (by simp; omega) (some ⟨wr.heap.size, 0, none⟩) [(o, x.length, c)] 1 1 rfl rfl (by simp) _ HN.out hll ?_; intro v' w' hO' hB' hG' hn'; have hB2 : Below w.heap.size w w' := hBa.trans hB'; have HO' : Hid (kR.Own w.heap.size w' v' ((someR (rs.take (k + 1))).map Prod.fst)) := (by rw [Hid, HT.out, List.map_append]; exact hO'); clear hO' hB' hG' hn')
        go_roundw
        case rel => exact ⟨k + 1, v', rfl, by omega, by go_num, HO', hB2⟩
        case measure => simp [intOf]; omega
      · have hp' : decide ((0 : Int) < (x.length : Int)) = false := by simpa using hpos
        rw [if_neg hpos, List.append_nil] at HT
        go_wp2
        go_roundw
        case rel => exact ⟨k + 1, _, rfl, by omega, by go_num, by rw [HT.out]; exact hO, hB⟩
        case measure => simp [intOf]; omega
    · obtain rfl : k = rs.length := by omega
      rw [List.take_length] at hO
      obtain ⟨qo, qc, rfl, hq0, hF⟩ := hO.out.fresh
      have HF := hid hF
      have HQ := hid hq0
      rw [List.length_map]
      clear hF hO hq0
      go_wp2
      go_ret
      exact ⟨⟨_, _, rfl, HQ.out, HF.out⟩, hB⟩
set_option maxHeartbeats 1000000 in
theorem drawAt_is (ao : Option Addr) (cap : Nat) (ds : List Int) (m : Nat) (w : World) (z : Int) (hz : dr ds m = z) (hI : kI.In w.heap.size w ao ds) :
    Calls Try.prog 62 #[.slice ao ds.length cap, .int .i64 m] w fun e w' => e = .returned (.int .i64 z) ∧ w' = w := by
  by_cases h : m < ds.length
  · have h' : decide ((m : Int) < (ds.length : Int)) = true := by simpa using h
    obtain ⟨b, off, rfl, hb, hc⟩ := ints_at hI h
    have d1 := hc m h
    have HZ : Hid (el ds m = z) := by rw [Hid, ← hz, dr, if_pos h]
    rw [HZ.out] at d1
    clear hc hz
    go_enter Try.func62, Try.ntmps62
    go_wp2
    go_ret
    exact ⟨rfl, rfl⟩
  · have h' : decide ((m : Int) < (ds.length : Int)) = false := by simpa using h
    have HZ : Hid (z = 0) := by rw [Hid, ← hz, dr, if_neg h]
    clear hz
    go_enter Try.func62, Try.ntmps62
    go_wp2
    go_ret
    exact ⟨ret_int HZ.out.symm, rfl⟩
set_option maxHeartbeats 1000000 in
theorem mayMerge_is (ao : Option Addr) (cap : Nat) (hs : List Hd) (ls : List (List Int)) (w : World) (r : Bool) (hl : ls.length ≤ 1048576) (hle : tot ls ≤ 1048576) (hz : InRR w.heap.size w ao hs ls) (hr : mgOk ls = r) :
    Calls Try.prog 50 #[.slice ao ls.length cap] w fun e w' => e = .returned (.bool r) ∧ w' = w := by
  have HR := hid hr
  clear hr
  by_cases h10 : 10 < ls.length
  · have h' : decide ((10 : Int) < (ls.length : Int)) = true := by simp; omega
    have HN : Hid (r = false) := by rw [Hid, ← HR.out]; exact mgOk_not (by omega)
    clear h10
    go_enter Try.func50, Try.ntmps50
    go_wp2
    go_ret
    exact ⟨ret_bool HN.out.symm, rfl⟩
  · have h' : decide ((10 : Int) < (ls.length : Int)) = false := by simp; omega
    have h10' : ls.length ≤ 10 := by omega
    clear h10
    go_enter Try.func50, Try.ntmps50
    go_wp2
    go_loop [3, 11] (fun v i => ∃ k : Nat, k ≤ ls.length ∧ i = .int .i64 k ∧ v = .int .i64 (tot (ls.take k) : Int)) (fun _ i => ls.length - (intOf i).toNat)
    case atStart => exact ⟨0, Nat.zero_le _, rfl, by simp [tot]⟩
    case round =>
      obtain ⟨k, hk, rfl, rfl⟩ := hrel
      by_cases hlt : k < ls.length
      · obtain ⟨b, off, o, c, rfl, hb, hc, _, _⟩ := hz.at hlt
        have ht := tot_take hlt
        have htl := tot_el hlt
        generalize (el ls k).length = x at hc ht htl
        go_wp2
        go_round
        case rel => exact ⟨k + 1, by omega, by go_num, by rw [ht]; go_num⟩
        case measure => simp [intOf]; omega
      · obtain rfl : k = ls.length := by omega
        rw [List.take_length]
        go_wp2
        go_ret
        refine ⟨ret_bool ?_, rfl⟩
        rw [← HR.out]
        simp [mgOk, h10']; omega
end Go.Proofs.Ytnjnnilmelmmgaa
