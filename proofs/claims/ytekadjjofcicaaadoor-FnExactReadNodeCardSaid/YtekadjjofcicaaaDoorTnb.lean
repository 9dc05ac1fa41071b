
/- Texts joined: numbers, and what lies behind a node. No conditions but those written. -/
import Derived.Test.YtekadjjofcicaaaDoorIt
import Derived.Test.YtekadjjofcicaaaDoorIa
import Derived.Shelf.Strings.OnBuilder
namespace Go.Proofs.YtekadjjofcicaaaDoor
open Go.RowKit

shelf_lay Lays.n156 Nm 156 at Tryd as Tryd.laysJoin
set_option maxRecDepth 100000 in
theorem Tryd.extraJoin : Builder.Extra Tryd.prog Tryd.laysJoin_ren where
  sizeBuilder := by kernel_rfl
  liesBuilder := by kernel_rfl
  t5 := Tryd.underlying5
  a5 := Tryd.isAgg5
  z5 := Tryd.sizeOf5
  v5 := Tryd.zeroValue5
  infoByte := by kernel_rfl
  cellsByte := by kernel_rfl
  sizeByte := by kernel_rfl
  neB5 := by decide
/-- A row of texts. -/
def kS : Kind ByteArray := ⟨9, 48, 1, fun z => [.string z], fun _ => rfl, fun a v h => by simp at h; subst h; rfl⟩
theorem Tryd.infoS : (Tryd.prog.info? 9).map (fun i => (i.zero, i.size, i.bytes)) = some (some (.string ⟨#[]⟩), 1, 16) := by kernel_rfl
theorem kS_ok : kS.Ok := kind_ok (K := kS) Tryd.underlying48 Tryd.infoS rfl (by decide) (by decide)
theorem texts_at {n : Nat} {W : World} {ao : Option Addr} {zs : List ByteArray} (h : kS.In n W ao zs) {k : Nat} (hk : k < zs.length) :
    ∃ b off, ao = some ⟨b, off, none⟩ ∧ b < n ∧ ∀ j, j < zs.length → W.cell? ⟨b, off + j, none⟩ = some (.string (el zs j)) := by
  obtain ⟨b, off, e, hb, hc⟩ := h.pos hk
  refine ⟨b, off, e, hb, fun j hj => ?_⟩
  have := hc j hj 0 (by decide)
  simpa [kS] using this
theorem texts_mk {n : Nat} {W : World} {b off : Nat} {zs : List ByteArray} (hb : b < n) (h : ∀ j, j < zs.length → W.cell? ⟨b, off + j, none⟩ = some (.string (el zs j))) : kS.In n W (some ⟨b, off, none⟩) zs := by
  refine .inr ⟨b, off, rfl, hb, fun j hj i hi => ?_⟩
  have e : i = 0 := by have : i < 1 := hi; omega
  subst e
  simp [kS, h j hj]
theorem text_one {n : Nat} {W : World} {p : Nat} {z : ByteArray} (hp : p < n) (h : W.cell? ⟨p, 0, none⟩ = some (.string z)) : kS.In n W (some ⟨p, 0, none⟩) [z] := by
  refine texts_mk hp fun j hj => ?_
  simp at hj; subst hj
  simpa [el_zero] using h
/-- Texts with a text between them. -/
def joinB (xs : List ByteArray) (sep : ByteArray) : ByteArray := ⟨(Lib.join (xs.map (·.data.toList)) sep.data.toList).toArray⟩
theorem joinB_nil (sep : ByteArray) : joinB [] sep = ⟨#[]⟩ := rfl
/-- Texts are joined, however many. -/
theorem join_any (ao : Option Addr) (c : Nat) (xs : List ByteArray) (sep : ByteArray) (w : World) (hz : kS.In w.heap.size w ao xs) (hN : xs.length ≤ 4194304) (hcap : xs.length ≤ c) (hlen : (joinB xs sep).size ≤ 140737488355328) :
    Calls Tryd.prog 23 #[.slice ao xs.length c, .string sep] w fun e w' => e = .returned (.string (joinB xs sep)) ∧ Below w.heap.size w w' := by
  by_cases h0 : 0 < xs.length
  · obtain ⟨b, off, rfl, hb, hc⟩ := texts_at hz h0
    refine (Any.strings_Join Tryd.laysJoin Tryd.extraJoin b off c xs sep w (fun j x hx => ?_) hb (by omega) hcap (by simpa [joinB, ByteArray.size] using hlen)).mono fun _ _ h => h
    have hj : j < xs.length := by rcases Nat.lt_or_ge j xs.length with h | h; exact h; rw [List.getElem?_eq_none h] at hx; cases hx
    rw [hc j hj, el, hx]; rfl
  · have e : xs = [] := List.length_eq_zero_iff.1 (by omega)
    subst e
    exact (Any.strings_Join_none Tryd.laysJoin Tryd.extraJoin ao c sep w).mono fun _ _ h => ⟨h.1, by rw [h.2]; exact Below.refl _ _⟩
theorem PowTab.below {n : Nat} {w w' : World} (h : PowTab w) (hb : Below n w w') (hn : n = w.heap.size) : PowTab w' := h.later (by rw [← hn]; exact hb)
/-- The texts of numbers. -/
def numBs (l : List Int) : List ByteArray := l.map fun z => tx (Lib.itoa z)
def numsT (sep : ByteArray) (l : List Int) : ByteArray := joinB (numBs l) sep
theorem numBs_len (l : List Int) : (numBs l).length = l.length := by simp [numBs]
theorem numBs_succ {l : List Int} {k : Nat} (h : k < l.length) : numBs (l.take (k + 1)) = numBs (l.take k) ++ [tx (Lib.itoa (el l k))] := by rw [numBs, take_succ_el h]; simp [numBs]
theorem joinTail_len (sep : List UInt8) (c : Nat) : ∀ r : List (List UInt8), (∀ x ∈ r, x.length ≤ c) → (Lib.joinTail sep r).length ≤ r.length * (sep.length + c)
  | [], _ => by simp [Lib.joinTail]
  | x :: r, h => by
    have ih := joinTail_len sep c r fun y hy => h y (by simp [hy])
    have hx := h x (by simp)
    simp only [Lib.joinTail, List.map_cons, List.flatten_cons, List.length_append, List.length_cons] at ih ⊢
    rw [Nat.succ_mul]; omega
theorem join_len (sep : List UInt8) (c : Nat) (r : List (List UInt8)) (h : ∀ x ∈ r, x.length ≤ c) : (Lib.join r sep).length ≤ (r.length + 1) * (sep.length + c) := by
  cases r with
  | nil => simp [Lib.join_nil]
  | cons x r =>
    have h1 := joinTail_len sep c r fun y hy => h y (by simp [hy])
    have hx := h x (by simp)
    rw [Lib.join_cons, List.length_append, List.length_cons, Nat.succ_mul, Nat.succ_mul]; omega
/-- The numbers are ints. -/
def Ints64 (l : List Int) : Prop := ∀ x ∈ l, -9223372036854775808 ≤ x ∧ x ≤ 9223372036854775807
theorem numsT_size {l : List Int} (h : Ints64 l) (sep : ByteArray) : (numsT sep l).size ≤ (l.length + 1) * (sep.size + 21) := by
  have := join_len sep.data.toList 21 ((numBs l).map (·.data.toList)) fun x hx => by
    simp only [numBs, List.map_map, List.mem_map] at hx
    obtain ⟨z, hz, rfl⟩ := hx
    have := itoa_short z (h z hz).1 (h z hz).2
    simpa [tx] using this
  rw [List.length_map, numBs_len, Array.length_toList] at this
  show (Lib.join ((numBs l).map (·.data.toList)) sep.data.toList).toArray.size ≤ _
  rw [List.size_toArray]; exact this
set_option maxRecDepth 10000 in
set_option maxHeartbeats 4000000 in
theorem numbersText_is (ao : Option Addr) (cap : Nat) (zs : List Int) (sep : ByteArray) (w : World) (hl : zs.length ≤ 1048576) (hs : sep.size ≤ 100) (h64 : Ints64 zs) (hz : kI.In w.heap.size w ao zs) (hT : PowTab w) :
    Calls Tryd.prog 44 #[.slice ao zs.length cap, .string sep] w fun e w' => e = .returned (.string (numsT sep zs)) ∧ Below w.heap.size w w' := by
  have HS := hid (numsT_size h64 sep)
  have hcon := fun (b : Option Addr) c W h1 h2 => join_any b c (numBs zs) sep W h1 (by rw [numBs_len]; omega) h2 (by
    have h1 := HS.out
    have h2 : (zs.length + 1) * (sep.size + 21) ≤ 1048577 * 121 := Nat.mul_le_mul (by omega) (by omega)
    have h3 : (joinB (numBs zs) sep).size = (numsT sep zs).size := rfl
    omega)
  have HC := hid hcon
  have HT := hid hT
  have H64 := hid h64
  clear hcon hT h64 HS
  go_enter Tryd.func44, Tryd.ntmps44
  go_wp2
  go_loopw [5, 10] (fun u i wr => ∃ (k : Nat) (v : Value), v = u ∧ k ≤ zs.length ∧ i = .int .i64 k ∧ Hid (kS.Own w.heap.size wr v (numBs (zs.take k))) ∧ Below w.heap.size w wr) (fun _ i _ => zs.length - (intOf i).toNat)
  case atStart => exact ⟨0, _, rfl, Nat.zero_le _, rfl, Kind.Own.nil _ _ _, Below.refl _ _⟩
  case round =>
    obtain ⟨k, v, rfl, hk, rfl, hO, hB⟩ := hrel
    by_cases hlt : k < zs.length
    · obtain ⟨b, off, rfl, hb, hc⟩ := ints_at hz hlt
      have d1 := (hB.cell (p := ⟨b, off + k, none⟩) hb).trans (hc k hlt)
      have h6 := H64.out _ (el_mem hlt)
      have hit := itoa_any (el zs k) h6.1 h6.2 wr (HT.out.later hB)
      have HSC := hid (numBs_succ hlt)
      have hll : (numBs (zs.take k)).length + 1 ≤ 4194304 := by rw [numBs_len, List.length_take]; omega
      generalize tx (Lib.itoa (el zs k)) = t at hit HSC
      generalize el zs k = x at d1 hit
      have HIT := hid hit
      clear hit hc h6
      go_wp2_with fail
      refine HIT.out.mono ?_
      rintro e w1 ⟨rfl, hb1⟩
      have hB1 := hB.trans (hb1.mono hB.size)
      have HA : Hid (kS.Own w.heap.size (w1.alloc (.cells #[.string t] 9)) v (numBs (zs.take k))) := (hO.out.below hb1).below (below1 _ _)
      have HN : Hid (kS.In (w1.heap.size + 1) (w1.alloc (.cells #[.string t] 9)) (some ⟨w1.heap.size, 0, none⟩) [t]) := text_one (by omega) (by simp)
      have hBa : Below w.heap.size w (w1.alloc (.cells #[.string t] 9)) := Below.allocS hB1 _
      have hs1 := hB1.size
      clear hb1 hO HIT
      go_wp2_with (at_builtin; refine Kind.app kS_ok (w1.alloc (.cells #[.string t] 9)) rfl (.tmp 14) (.tmp 17) rfl w.heap.size v (numBs (zs.take k)) rfl HA.out (by simp; omega) (some ⟨w1.heap.size, 0, none⟩) [t] 1 1 rfl rfl (by simp) _ HN.out hll ?_; intro v' w' hO' hB' hG' hn'; have hB2 : Below w.heap.size w w' := hBa.trans (hB'.mono (by omega)); have HO' : Hid (kS.Own w.heap.size w' v' (numBs (zs.take (k + 1)))) := (by rw [Hid, HSC.out]; exact hO'); clear hO' hB' hG' hn')
      go_roundw
      case rel => exact ⟨k + 1, v', rfl, by omega, by go_num, HO', hB2⟩
      case measure => simp [intOf]; omega
    · obtain rfl : k = zs.length := by omega
      rw [List.take_length] at hO
      obtain ⟨qo, qc, rfl, _, hF⟩ := hO.out.fresh
      have hcap := hF.cap
      have hcal := HC.out qo qc wr hF.in hcap
      clear hF hO hcap HC
      have HCAL := hid hcal
      clear hcal
      go_wp2_with fail
      refine HCAL.out.mono ?_
      rintro e w1 ⟨rfl, hb1⟩
      go_wp2
      go_ret
      exact ⟨rfl, hB.trans (hb1.mono hB.size)⟩
/-- What a node leads to, as a text. -/
def nextT (nx : List Int) : ByteArray := if nx.length = 0 then ⟨#[45]⟩ else numsT ⟨#[44]⟩ nx
set_option maxHeartbeats 1000000 in
theorem nextText_is (ao : Option Addr) (cap : Nat) (zs : List Int) (w : World) (hl : zs.length ≤ 1048576) (h64 : Ints64 zs) (hz : kI.In w.heap.size w ao zs) (hT : PowTab w) :
    Calls Tryd.prog 22 #[.slice ao zs.length cap] w fun e w' => e = .returned (.string (nextT zs)) ∧ Below w.heap.size w w' := by
  unfold nextT
  by_cases h0 : zs.length = 0
  · rw [if_pos h0]
    have h1 := (len0 h0).1
    clear h0
    go_enter Tryd.func22, Tryd.ntmps22
    go_wp2
    go_ret
    exact ⟨rfl, Below.refl _ _⟩
  · rw [if_neg h0]
    have h1 := (len1 h0).1
    have HC := hid (numbersText_is ao cap zs ⟨#[44]⟩ w hl (by decide) h64 hz hT)
    clear h0 hz hT
    go_enter Tryd.func22, Tryd.ntmps22
    go_wp2_with fail
    refine HC.out.mono ?_
    rintro e w1 ⟨rfl, hb1⟩
    go_wp2
    go_ret
    exact ⟨rfl, hb1⟩
end Go.Proofs.YtekadjjofcicaaaDoor
