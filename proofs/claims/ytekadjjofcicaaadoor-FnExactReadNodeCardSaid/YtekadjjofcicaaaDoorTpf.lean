
/- Numbers, a stage and what a node leads to, read: the program's. No conditions but those written. -/
import Derived.Test.YtekadjjofcicaaaDoorTpe
namespace Go.Proofs.YtekadjjofcicaaaDoor
open Go.RowKit

/-- Words that are all numbers. -/
def numsO : List ByteArray → Option (List Int)
  | [] => some []
  | x :: r => match numL x.data.toList with
    | none => none
    | some n => match numsO r with
      | none => none
      | some l => some (n :: l)
theorem numsO_snoc : ∀ (l : List ByteArray) (x : ByteArray) (a : List Int) (n : Int), numsO l = some a → numL x.data.toList = some n → numsO (l ++ [x]) = some (a ++ [n])
  | [], x, a, n, h1, h2 => by
    obtain rfl : [] = a := Option.some.inj h1
    simp [numsO, h2]
  | y :: l, x, a, n, h1, h2 => by
    rw [numsO] at h1
    rw [List.cons_append, numsO]
    cases hy : numL y.data.toList with
    | none => rw [hy] at h1; cases h1
    | some m =>
      rw [hy] at h1
      dsimp only at h1 ⊢
      cases hl : numsO l with
      | none => rw [hl] at h1; cases h1
      | some b =>
        rw [hl] at h1
        obtain rfl : m :: b = a := Option.some.inj h1
        rw [numsO_snoc l x b n hl h2]; rfl
theorem numsO_none : ∀ {l : List ByteArray} {x : ByteArray}, x ∈ l → numL x.data.toList = none → numsO l = none
  | y :: l, x, h, hx => by
    rw [numsO]
    rcases List.mem_cons.1 h with rfl | h
    · rw [hx]
    · rw [numsO_none h hx]; split <;> rfl
theorem numsO_len : ∀ {l : List ByteArray} {a : List Int}, numsO l = some a → a.length = l.length
  | [], a, h => by obtain rfl : [] = a := Option.some.inj h; rfl
  | y :: l, a, h => by
    rw [numsO] at h
    cases hy : numL y.data.toList with
    | none => rw [hy] at h; cases h
    | some m =>
      rw [hy] at h
      dsimp only at h
      cases hl : numsO l with
      | none => rw [hl] at h; cases h
      | some b =>
        rw [hl] at h
        obtain rfl : m :: b = a := Option.some.inj h
        rw [List.length_cons, List.length_cons, numsO_len hl]
def numsQ (ws : List ByteArray) : List Int × Bool := match numsO ws with | some l => (l, true) | none => ([], false)
theorem numsQ_yes {ws : List ByteArray} {l : List Int} (h : numsO ws = some l) : numsQ ws = (l, true) := by rw [numsQ, h]
theorem numsQ_no {ws : List ByteArray} (h : numsO ws = none) : numsQ ws = ([], false) := by rw [numsQ, h]
theorem numsQ_len (ws : List ByteArray) : (numsQ ws).1.length ≤ ws.length := by
  unfold numsQ
  split
  · next l h => rw [numsO_len h]; exact Nat.le_refl _
  · simp
/-- A row of ints of its own and a bool are answered. -/
def AnsNB (w : World) (R : List Int × Bool) (e : Ending) (w' : World) : Prop := (∃ go qc, e = .returned (.tuple #[.slice go R.1.length qc, .bool R.2]) ∧ (go = none → qc = 0) ∧ kI.Fresh w.heap.size w'.heap.size w' go qc R.1) ∧ Below w.heap.size w w'
/-- The texts are short. -/
def ShortT (ws : List ByteArray) : Prop := ∀ x ∈ ws, x.size ≤ 1048576
set_option maxRecDepth 10000 in
set_option maxHeartbeats 4000000 in
theorem readNumbers_is (ao : Option Addr) (cap : Nat) (ws : List ByteArray) (w : World) (hl : ws.length ≤ 1048577) (hS : ShortT ws) (hz : kS.In w.heap.size w ao ws) (hT : PowTab w) (hE : NErr w) :
    Calls Tryd.prog 49 #[.slice ao ws.length cap] w fun e w' => AnsNB w (numsQ ws) e w' := by
  have HT := hid hT
  have HE := hid hE
  have HS := hid hS
  clear hT hE hS
  go_enter Tryd.func49, Tryd.ntmps49
  go_wp2
  go_loopw [4, 11] (fun u i wr => ∃ (k : Nat) (v : Value) (acc : List Int), v = u ∧ k ≤ ws.length ∧ acc.length ≤ k ∧ i = .int .i64 (k : Int) ∧ Hid (kI.Own w.heap.size wr v acc) ∧ Hid (numsO (ws.take k) = some acc) ∧ Below w.heap.size w wr) (fun _ i _ => ws.length - (intOf i).toNat)
  case atStart => exact ⟨0, _, [], rfl, Nat.zero_le _, Nat.le_refl _, rfl, Kind.Own.nil _ _ _, rfl, Below.refl _ _⟩
  case round =>
    obtain ⟨k, v, acc, rfl, hk, hal, rfl, hO, hN, hB⟩ := hrel
    by_cases hlt : k < ws.length
    · obtain ⟨b, off, rfl, hb, hc⟩ := texts_at hz hlt
      have d1 := (hB.cell (p := ⟨b, off + k, none⟩) hb).trans (hc k hlt)
      have hnum := readNumber_is (el ws k) wr (HS.out _ (el_mem hlt)) (HT.out.later hB) (HE.out.later hB)
      have hmem := el_mem hlt
      have htk := take_succ_el hlt
      cases hn : numL (el ws k).data.toList with
      | none =>
        have HQ := hid (numsQ_no (numsO_none hmem hn))
        rw [numR_no hn] at hnum
        dsimp only at hnum
        have HM := hid hnum
        generalize el ws k = x at d1 HM
        clear hnum hc hmem htk hn hO hN
        go_wp2_with fail
        refine HM.out.mono ?_
        rintro e w1 ⟨rfl, hb1⟩
        go_wp2
        refine bodyPost_ret (v := .tuple #[.slice none 0 0, .bool false]) (by simp [results, Tryd.results49, go_sem]) rfl ?_
        rw [HQ.out]
        exact ⟨⟨none, 0, rfl, fun _ => rfl, .inl rfl⟩, hB.trans (hb1.mono hB.size)⟩
      | some n =>
        have HN2 : Hid (numsO (ws.take (k + 1)) = some (acc ++ [n])) := by rw [Hid, htk]; exact numsO_snoc _ _ _ _ hN.out hn
        rw [numR_yes hn] at hnum
        dsimp only at hnum
        have HM := hid hnum
        generalize el ws k = x at d1 HM
        clear hnum hc hmem htk hn hN
        go_wp2_with fail
        refine HM.out.mono ?_
        rintro e w1 ⟨rfl, hb1⟩
        have hB1 := hB.trans (hb1.mono hB.size)
        have HA : Hid (kI.Own w.heap.size (w1.alloc (.cells #[.int .i64 n] 3)) v acc) := (hO.out.below hb1).below (below1 _ _)
        have HNN : Hid (kI.In (w1.heap.size + 1) (w1.alloc (.cells #[.int .i64 n] 3)) (some ⟨w1.heap.size, 0, none⟩) [n]) := int_one (by omega) (by simp)
        have hBa : Below w.heap.size w (w1.alloc (.cells #[.int .i64 n] 3)) := Below.allocS hB1 _
        have hll : acc.length + 1 ≤ 4194304 := by omega
        have hs1 := hB1.size
        clear hb1 hO HM
        go_wp2_with (at_builtin; refine Kind.app kI_ok (w1.alloc (.cells #[.int .i64 n] 3)) rfl (.tmp 22) (.tmp 24) rfl w.heap.size v acc rfl HA.out (by simp; omega) (some ⟨w1.heap.size, 0, none⟩) [n] 1 1 rfl rfl (by simp) _ HNN.out hll ?_; intro v' w' hO' hB' hG' hn'; have hB2 : Below w.heap.size w w' := hBa.trans (hB'.mono (by omega)); have HO' : Hid (kI.Own w.heap.size w' v' (acc ++ [n])) := hO'; clear hO' hB' hG' hn')
        go_roundw
        case rel => exact ⟨k + 1, v', acc ++ [n], rfl, by omega, by simp; omega, by go_num, HO', HN2, hB2⟩
        case measure => simp [intOf]; omega
    · obtain rfl : k = ws.length := by omega
      have hN2 := hN.out
      rw [List.take_length] at hN2
      have HQ := hid (numsQ_yes hN2)
      obtain ⟨qo, qc, rfl, hn, hF⟩ := hO.out.fresh
      have HF := hid hF
      clear hF hO hN hN2
      go_wp2
      refine bodyPost_ret (v := .tuple #[.slice qo acc.length qc, .bool true]) (by simp [results, Tryd.results49, go_sem]) rfl ?_
      rw [HQ.out]
      exact ⟨⟨qo, qc, rfl, hn, HF.out⟩, hB⟩
theorem extract_size_le (s : ByteArray) (a b : Nat) : (s.extract a b).size ≤ s.size := by rw [ByteArray.size_extract]; omega
theorem splitGo_short (s : ByteArray) (m : Int) : ∀ (n i f : Nat), ∀ x ∈ splitGo s m n i f, x.size ≤ s.size
  | 0, i, f, x, h => by simp [splitGo] at h; subst h; exact extract_size_le _ _ _
  | n + 1, i, f, x, h => by
    rw [splitGo] at h
    split at h
    · rcases List.mem_cons.1 h with rfl | h
      · exact extract_size_le _ _ _
      · exact splitGo_short s m n _ _ x h
    · exact splitGo_short s m n _ _ x h
theorem splitB_short {s : ByteArray} (m : Int) (hs : s.size ≤ 1048576) : ShortT (splitB s m) := fun x hx => Nat.le_trans (splitGo_short s m _ _ _ x hx) hs
/-- What a node leads to, read. -/
def nextR (s : ByteArray) : List Int × Bool := if s = ⟨#[45]⟩ then ([], true) else numsQ (splitB s 44)
set_option maxRecDepth 10000 in
set_option maxHeartbeats 1000000 in
theorem readNext_is (s : ByteArray) (w : World) (hs : s.size ≤ 1048576) (hT : PowTab w) (hE : NErr w) :
    Calls Tryd.prog 32 #[.string s] w fun e w' => AnsNB w (nextR s) e w' := by
  unfold nextR
  by_cases h : s = ⟨#[45]⟩
  · rw [if_pos h]
    subst h
    go_enter Tryd.func32, Tryd.ntmps32
    go_wp2
    exact bodyPost_ret (v := .tuple #[.slice none 0 0, .bool true]) (by simp [results, Tryd.results32, go_sem]) rfl ⟨⟨none, 0, rfl, fun _ => rfl, .inl rfl⟩, Below.refl _ _⟩
  · rw [if_neg h]
    have hne : (s.toList == (⟨#[45]⟩ : ByteArray).toList) = false := by
      rw [beq_eq_false_iff_ne]; exact fun e => h (ba_toList_inj e)
    have hne2 : s.toList ≠ (⟨#[45]⟩ : ByteArray).toList := fun e => h (ba_toList_inj e)
    obtain ⟨R, hR⟩ : ∃ R, R = numsQ (splitB s 44) := ⟨_, rfl⟩
    rw [← hR]
    have HR := hid hR
    clear hR
    have HP := hid (partsOf_is s 44 w hs (by omega))
    have HL := hid (splitB_len s 44)
    have HSh := hid (splitB_short 44 hs)
    have HT := hid hT
    have HE := hid hE
    have e45 : (⟨#[45]⟩ : ByteArray).toList = [45] := by rw [Lib.toList_data]
    rw [e45] at hne hne2
    clear h hT hE e45
    go_enter Tryd.func32, Tryd.ntmps32
    go_wp2_with fail
    refine HP.out.mono ?_
    rintro e w1 ⟨⟨go, qc, rfl, hno, hF⟩, hb1⟩
    have HM := hid (readNumbers_is go qc (splitB s 44) w1 (by have := HL.out; omega) HSh.out hF.in (HT.out.later hb1) (HE.out.later hb1))
    rw [← HR.out] at HM
    clear hF
    go_wp2_with fail
    refine HM.out.mono ?_
    rintro e w2 ⟨⟨go2, qc2, rfl, hno2, hF2⟩, hb2⟩
    have HF2 := hid hF2
    clear hF2
    go_wp2
    exact bodyPost_ret (v := .tuple #[.slice go2 R.1.length qc2, .bool R.2]) (by simp [results, Tryd.results32, go_sem]) rfl ⟨⟨go2, qc2, rfl, hno2, HF2.out.wide hb1.size (Nat.le_refl _)⟩, hb1.trans (hb2.mono hb1.size)⟩
end Go.Proofs.YtekadjjofcicaaaDoor
