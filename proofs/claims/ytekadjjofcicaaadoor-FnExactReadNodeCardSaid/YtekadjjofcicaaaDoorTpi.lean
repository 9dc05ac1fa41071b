
/- A node read: what both sides find. No conditions but those written. -/
import Derived.Test.YtekadjjofcicaaaDoorTph
namespace Go.Proofs.YtekadjjofcicaaaDoor
open Go.RowKit

/-- The kind among the first words. -/
def kindAt (x : ByteArray) : Nat → Int
  | 0 => 0
  | k + 1 => if 0 < k ∧ x = wordB (k : Int) then (k : Int) else kindAt x k
theorem kindAt_five (x : ByteArray) : kindAt x 5 = match kindO x with | some k => k | none => 0 := by
  by_cases h0 : x = wordB ((0 : Nat) : Int)
  · subst h0; decide
  by_cases h1 : x = wordB ((1 : Nat) : Int)
  · subst h1; decide
  by_cases h2 : x = wordB ((2 : Nat) : Int)
  · subst h2; decide
  by_cases h3 : x = wordB ((3 : Nat) : Int)
  · subst h3; decide
  by_cases h4 : x = wordB ((4 : Nat) : Int)
  · subst h4; decide
  rw [kindO_none fun j hj => by
    rcases (show j = 0 ∨ j = 1 ∨ j = 2 ∨ j = 3 ∨ j = 4 from by omega) with rfl | rfl | rfl | rfl | rfl
    · exact h0
    · exact h1
    · exact h2
    · exact h3
    · exact h4]
  have g1 : x ≠ wordB 1 := h1
  have g2 : x ≠ wordB 2 := h2
  have g3 : x ≠ wordB 3 := h3
  have g4 : x ≠ wordB 4 := h4
  simp [kindAt, g1, g2, g3, g4]
theorem kindO_word {x : ByteArray} {k : Int} (h : kindO x = some k) : x = wordB k := by
  unfold kindO at h
  split at h
  · next e => obtain rfl : 0 = k := Option.some.inj h; rw [e]; rfl
  · split at h
    · next e => obtain rfl : 1 = k := Option.some.inj h; exact e
    · split at h
      · next e => obtain rfl : 2 = k := Option.some.inj h; exact e
      · split at h
        · next e => obtain rfl : 3 = k := Option.some.inj h; exact e
        · split at h
          · next e => obtain rfl : 4 = k := Option.some.inj h; exact e
          · cases h
theorem hasT_kind {nm : ByteArray} {kd sa sb cp : Int} {nx : List Int} (h : hasT nm kd sa sb cp nx = true) : kd ≠ 0 := by
  obtain ⟨j, h1, h2, rfl⟩ := (hasT_has h).kin
  omega
theorem num_text {s : ByteArray} {n : Int} (h : numL s.data.toList = some n) : s = tx (Lib.itoa n) := by
  have := (itoa_numL h).1
  apply ba_ext
  rw [this]; rfl
theorem nums_texts : ∀ {ws : List ByteArray} {l : List Int}, numsO ws = some l → ws = numBs l
  | [], l, h => by obtain rfl : [] = l := Option.some.inj h; rfl
  | x :: r, l, h => by
    rw [numsO] at h
    cases hx : numL x.data.toList with
    | none => rw [hx] at h; cases h
    | some n =>
      rw [hx] at h
      dsimp only at h
      cases hr : numsO r with
      | none => rw [hr] at h; cases h
      | some b =>
        rw [hr] at h
        obtain rfl : n :: b = l := Option.some.inj h
        rw [num_text hx, nums_texts hr]; rfl
theorem next_text {s : ByteArray} {nx : List Int} (h : nextR s = (nx, true)) : s = nextT nx := by
  unfold nextR at h
  split at h
  · next e =>
    obtain rfl : [] = nx := by simpa using h
    rw [e]; rfl
  · cases hn : numsO (splitB s 44) with
    | none => rw [numsQ_no hn] at h; simp at h
    | some l =>
      rw [numsQ_yes hn] at h
      obtain rfl : l = nx := by simpa using h
      have hw := nums_texts hn
      have hj := splitB_join s 44
      have e44 : ((44 : UInt8).toNat : Int) = 44 := rfl
      rw [e44, hw] at hj
      have hp := splitB_pos s 44
      rw [e44, hw, numBs_len] at hp
      rw [nextT, if_neg (by omega)]
      exact hj.symm
theorem stageT_join (kd sa sb : Int) : stageT kd sa sb = joinB [wordB kd, tx (Lib.itoa sa), tx (Lib.itoa sb)] ⟨#[58]⟩ := by
  apply ba_ext
  simp only [stageT, numsT, numBs, ba_app, joinB_data, List.map_cons, List.map_nil, Lib.join_cons, Lib.joinTail, List.flatten_cons, List.flatten_nil, List.append_nil, List.append_assoc]
/-- The parts of a node's text have no blank. -/
theorem itoa_free {n : Int} {m : UInt8} (hm : m ≠ 45) (hd : digD m = false) : m ∉ Lib.itoa n := by
  have hdec : ∀ u, m ∉ Lib.decDigits u := fun u h => by rw [dec_all u m h] at hd; cases hd
  unfold Lib.itoa
  split
  · intro h
    rcases List.mem_cons.1 h with h | h
    · exact hm h
    · exact hdec _ h
  · exact hdec _
theorem mem_joinTail {m : UInt8} {sep : List UInt8} (hs : m ∉ sep) : ∀ {r : List (List UInt8)}, (∀ x ∈ r, m ∉ x) → m ∉ Lib.joinTail sep r
  | [], _ => by simp [Lib.joinTail]
  | x :: r, h => by
    have ih := mem_joinTail hs (r := r) fun y hy => h y (by simp [hy])
    simp only [Lib.joinTail, List.map_cons, List.flatten_cons, List.mem_append, not_or] at ih ⊢
    exact ⟨⟨hs, h x (by simp)⟩, ih⟩
theorem mem_joinB {m : UInt8} {sep : ByteArray} (hs : m ∉ sep.data.toList) {r : List ByteArray} (h : ∀ x ∈ r, m ∉ x.data.toList) : m ∉ (joinB r sep).data.toList := by
  rw [joinB_data]
  cases r with
  | nil => simp [Lib.join_nil]
  | cons x r =>
    rw [List.map_cons, Lib.join_cons, List.mem_append, not_or]
    refine ⟨h x (by simp), mem_joinTail hs fun y hy => ?_⟩
    obtain ⟨z, hz, rfl⟩ := List.mem_map.1 hy
    exact h z (by simp [hz])
theorem tx_free {n : Int} {m : UInt8} (hm : m ≠ 45) (hd : digD m = false) : m ∉ (tx (Lib.itoa n)).data.toList := by
  have := itoa_free (n := n) hm hd
  simpa [tx] using this
theorem stageT_free (kd sa sb : Int) : (32 : UInt8) ∉ (stageT kd sa sb).data.toList := by
  rw [stageT_join]
  refine mem_joinB (by decide) fun x hx => ?_
  simp only [List.mem_cons, List.not_mem_nil, or_false] at hx
  rcases hx with rfl | rfl | rfl
  · unfold wordB
    split
    · decide
    · split
      · decide
      · split
        · decide
        · split <;> decide
  · exact tx_free (by decide) (by decide)
  · exact tx_free (by decide) (by decide)
theorem nextT_free (nx : List Int) : (32 : UInt8) ∉ (nextT nx).data.toList := by
  unfold nextT
  split
  · decide
  · refine mem_joinB (by decide) fun x hx => ?_
    obtain ⟨z, _, rfl⟩ := List.mem_map.1 hx
    exact tx_free (by decide) (by decide)
theorem name_free {nm : ByteArray} (h : nameB nm = true) : (32 : UInt8) ∉ nm.data.toList := by
  intro hm
  obtain ⟨k, hk, e⟩ := List.getElem_of_mem hm
  have hk' : k < nm.size := by rw [Array.length_toList] at hk; exact hk
  have e2 : nm[k]'hk' = 32 := e
  have : nameB nm = false := nameB_no hk' (by rw [byteI_at hk', e2]; decide)
  rw [h] at this; cases this
/-- A node's text is cut into its five parts. -/
theorem node_parts {nm : ByteArray} {kd sa sb cp : Int} {nx : List Int} (h : nameB nm = true) : splitB (nodeB nm kd sa sb cp nx) 32 = [⟨#[110, 111, 100, 101]⟩, nm, stageT kd sa sb, tx (Lib.itoa cp), nextT nx] := by
  have := splitB_of_join (ps := [⟨#[110, 111, 100, 101]⟩, nm, stageT kd sa sb, tx (Lib.itoa cp), nextT nx]) (m := 32) (by simp) fun p hp => by
    simp only [List.mem_cons, List.not_mem_nil, or_false] at hp
    rcases hp with rfl | rfl | rfl | rfl | rfl
    · decide
    · exact name_free h
    · exact stageT_free _ _ _
    · exact tx_free (by decide) (by decide)
    · exact nextT_free _
  exact this
theorem hasT_name {nm : ByteArray} {kd sa sb cp : Int} {nx : List Int} (h : hasT nm kd sa sb cp nx = true) : nameB nm = true := by
  simp only [hasT, Bool.and_eq_true] at h
  exact h.1
/-- What is read, as the specification asks it. -/
theorem readR_as {s : ByteArray} {s0 s1 s2 s3 s4 t0 t1 t2 : ByteArray} {a b cp : Int} {nx : List Int} (h5 : splitB s 32 = [s0, s1, s2, s3, s4]) (h3 : splitB s2 58 = [t0, t1, t2]) (ha : numL t1.data.toList = some a) (hb : numL t2.data.toList = some b) (hc : numL s3.data.toList = some cp) (hn : nextR s4 = (nx, true)) :
    readR s = if hasT s1 (kindAt t0 5) a b cp nx = true ∧ nodeB s1 (kindAt t0 5) a b cp nx = s then ((s1, kindAt t0 5, a, b, cp, nx), true) else zeroN := by
  have hnums : numsO ([t0, t1, t2].drop 1) = some [a, b] := by simp [numsO, ha, hb]
  have hst := stageQ_two hnums
  have e0 : el [t0, t1, t2] 0 = t0 := rfl
  rw [e0] at hst
  have hnr := numR_yes hc
  have hsj := splitB_join s 32
  have e32 : ((32 : UInt8).toNat : Int) = 32 := rfl
  rw [e32, h5] at hsj
  have hs2 := splitB_join s2 58
  have e58 : ((58 : UInt8).toNat : Int) = 58 := rfl
  rw [e58, h3] at hs2
  unfold readR
  rw [h5]
  have g0 : el [s0, s1, s2, s3, s4] 0 = s0 := rfl
  have g1 : el [s0, s1, s2, s3, s4] 1 = s1 := rfl
  have g2 : el [s0, s1, s2, s3, s4] 2 = s2 := rfl
  have g3 : el [s0, s1, s2, s3, s4] 3 = s3 := rfl
  have g4 : el [s0, s1, s2, s3, s4] 4 = s4 := rfl
  rw [g0, g1, g2, g3, g4, h3, hn, hnr]
  have hkf := kindAt_five t0
  by_cases hc1 : hasT s1 (kindAt t0 5) a b cp nx = true ∧ nodeB s1 (kindAt t0 5) a b cp nx = s
  · rw [if_pos hc1]
    obtain ⟨hh, hnb⟩ := hc1
    have hp := node_parts (kd := kindAt t0 5) (sa := a) (sb := b) (cp := cp) (nx := nx) (hasT_name hh)
    rw [hnb, h5] at hp
    obtain rfl : s0 = ⟨#[110, 111, 100, 101]⟩ := by simp only [List.cons.injEq] at hp; exact hp.1
    rw [if_pos ⟨rfl, rfl⟩]
    have hk0 := hasT_kind hh
    cases hko : kindO t0 with
    | none => rw [hko] at hkf; exact absurd hkf hk0
    | some k =>
      rw [hko] at hst hkf
      dsimp only at hst hkf
      rw [hst, ← hkf]
      dsimp only
      rw [if_pos ⟨rfl, rfl, rfl, hh⟩]
  · rw [if_neg hc1]
    by_cases hn0 : s0 = ⟨#[110, 111, 100, 101]⟩
    · rw [if_pos ⟨rfl, hn0⟩]
      cases hko : kindO t0 with
      | none =>
        rw [hko] at hst
        rw [hst, if_neg (fun h => by cases h.1)]
      | some k =>
        rw [hko] at hst hkf
        dsimp only at hst hkf
        rw [hst]
        dsimp only
        rw [if_neg]
        rintro ⟨_, _, _, hh⟩
        refine hc1 ⟨by rw [hkf]; exact hh, ?_⟩
        rw [hkf, ← hsj, hn0]
        have w0 := kindO_word hko
        have w1 := num_text ha
        have w2 := num_text hb
        have w3 := num_text hc
        have w4 := next_text hn
        have w5 : s2 = stageT k a b := by rw [stageT_join, ← w0, ← w1, ← w2, hs2]
        rw [nodeB, ← w5, ← w3, ← w4]
    · rw [if_neg (fun h => hn0 h.2)]
theorem readR_five {s : ByteArray} (h : (splitB s 32).length ≠ 5) : readR s = zeroN := by rw [readR, if_neg (fun h2 => h h2.1)]
theorem readR_stage {s : ByteArray} (h : (stageQ (splitB (el (splitB s 32) 2) 58)).2 = false) : readR s = zeroN := by
  unfold readR
  split
  · rw [if_neg (fun h2 => by rw [h] at h2; cases h2.1)]
  · rfl
theorem readR_num {s : ByteArray} (h : (numR (el (splitB s 32) 3)).2 = false) : readR s = zeroN := by
  unfold readR
  split
  · rw [if_neg (fun h2 => by rw [h] at h2; cases h2.2.1)]
  · rfl
theorem readR_next {s : ByteArray} (h : (nextR (el (splitB s 32) 4)).2 = false) : readR s = zeroN := by
  unfold readR
  split
  · rw [if_neg (fun h2 => by rw [h] at h2; cases h2.2.2.1)]
  · rfl
theorem stage_three {ps : List ByteArray} (hp : 0 < ps.length) (h : ps.length ≠ 3) : (stageQ ps).2 = false := by
  cases hn : numsO (ps.drop 1) with
  | none => rw [stageQ_nums hn]
  | some l => rw [stageQ_len hn (by have := numsO_len hn; rw [List.length_drop] at this; omega)]
theorem stage_num {t0 t1 t2 : ByteArray} (h : numL t1.data.toList = none ∨ numL t2.data.toList = none) : (stageQ [t0, t1, t2]).2 = false := by
  have hn : numsO ([t0, t1, t2].drop 1) = none := by
    rcases h with h | h
    · exact numsO_none (x := t1) (by simp) h
    · exact numsO_none (x := t2) (by simp) h
  rw [stageQ_nums hn]
end Go.Proofs.YtekadjjofcicaaaDoor
