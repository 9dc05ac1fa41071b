
/- Texts cut at a mark, and numbers read: plainly. No conditions but those written. -/
import Derived.Test.YtekadjjofcicaaaDoorTnd
import Derived.Lib.AtoiAll
import Derived.Laws.RangeAny
namespace Go.Proofs.YtekadjjofcicaaaDoor
open Go.RowKit

/-- A list of bytes cut at a mark. -/
def splitL (m : UInt8) : List UInt8 → List (List UInt8)
  | [] => [[]]
  | x :: r => if x = m then [] :: splitL m r else match splitL m r with
    | [] => [[x]]
    | p :: ps => (x :: p) :: ps
theorem splitL_ne (m : UInt8) : ∀ l, splitL m l ≠ []
  | [] => by simp [splitL]
  | x :: r => by
    rw [splitL]
    split
    · simp
    · split <;> simp
theorem splitL_join (m : UInt8) : ∀ l, Lib.join (splitL m l) [m] = l
  | [] => by simp [splitL, Lib.join_one]
  | x :: r => by
    have ih := splitL_join m r
    have hne := splitL_ne m r
    rw [splitL]
    split
    · next h =>
      cases hs : splitL m r with
      | nil => exact absurd hs hne
      | cons p ps =>
        rw [hs] at ih
        rw [Lib.join_cons, List.nil_append, Lib.joinTail, List.map_cons, List.flatten_cons]
        rw [Lib.join_cons] at ih
        subst h
        simpa [Lib.joinTail] using ih
    · cases hs : splitL m r with
      | nil => exact absurd hs hne
      | cons p ps =>
        rw [hs] at ih
        dsimp only
        rw [Lib.join_cons] at ih ⊢
        rw [List.cons_append, ih]
theorem splitL_free (m : UInt8) : ∀ l, ∀ p ∈ splitL m l, m ∉ p
  | [], p, h => by simp [splitL] at h; subst h; simp
  | x :: r, p, h => by
    have ih := splitL_free m r
    rw [splitL] at h
    split at h
    · rcases List.mem_cons.1 h with rfl | h
      · simp
      · exact ih p h
    · next hx =>
      cases hs : splitL m r with
      | nil => rw [hs] at h; simp at h; subst h; simp; exact fun e => hx e.symm
      | cons q qs =>
        rw [hs] at h ih
        dsimp only at h
        rcases List.mem_cons.1 h with rfl | h
        · intro hm
          rcases List.mem_cons.1 hm with e | hm
          · exact hx e.symm
          · exact ih q (by simp) hm
        · exact ih p (by simp [h])
theorem splitL_one {m : UInt8} : ∀ {p : List UInt8}, m ∉ p → splitL m p = [p]
  | [], _ => rfl
  | x :: r, h => by
    have hx : x ≠ m := fun e => h (by simp [e])
    rw [splitL, if_neg hx, splitL_one (p := r) fun hm => h (by simp [hm])]
theorem splitL_app {m : UInt8} : ∀ {p : List UInt8} (r : List UInt8), m ∉ p → splitL m (p ++ m :: r) = p :: splitL m r
  | [], r, _ => by simp [splitL]
  | x :: p, r, h => by
    have hx : x ≠ m := fun e => h (by simp [e])
    rw [List.cons_append, splitL, if_neg hx, splitL_app (p := p) r fun hm => h (by simp [hm])]
theorem splitL_of_join {m : UInt8} : ∀ {ps : List (List UInt8)}, ps ≠ [] → (∀ p ∈ ps, m ∉ p) → splitL m (Lib.join ps [m]) = ps
  | [], h, _ => absurd rfl h
  | [p], _, h => by rw [Lib.join_one]; exact splitL_one (h p (by simp))
  | p :: q :: r, _, h => by
    have ih := splitL_of_join (ps := q :: r) (by simp) fun x hx => h x (by simp [hx])
    have e : Lib.join (p :: q :: r) [m] = p ++ m :: Lib.join (q :: r) [m] := by
      rw [Lib.join_cons, Lib.join_cons]; simp [Lib.joinTail]
    rw [e, splitL_app _ (h p (by simp)), ih]
/-- A text cut at a mark, from a place on. -/
def splitGo (s : ByteArray) (m : Int) : Nat → Nat → Nat → List ByteArray
  | 0, _, f => [s.extract f s.size]
  | n + 1, i, f => if byteI s i = m then s.extract f i :: splitGo s m n (i + 1) (i + 1) else splitGo s m n (i + 1) f
def splitB (s : ByteArray) (m : Int) : List ByteArray := splitGo s m s.size 0 0
theorem splitGo_skip (s : ByteArray) (m : Int) : ∀ (d n i f : Nat), (∀ k, i ≤ k → k < i + d → byteI s k ≠ m) → d ≤ n → splitGo s m n i f = splitGo s m (n - d) (i + d) f
  | 0, n, i, f, _, _ => rfl
  | d + 1, 0, i, f, _, hn => by omega
  | d + 1, n + 1, i, f, h, hn => by
    rw [splitGo, if_neg (h i (by omega) (by omega)), splitGo_skip s m d n (i + 1) f (fun k h1 h2 => h k (by omega) (by omega)) (by omega)]
    congr 1
    · omega
    · omega
theorem splitGo_len (s : ByteArray) (m : Int) : ∀ (n i f : Nat), (splitGo s m n i f).length ≤ n + 1
  | 0, i, f => by simp [splitGo]
  | n + 1, i, f => by
    rw [splitGo]
    split
    · have := splitGo_len s m n (i + 1) (i + 1); simp; omega
    · have := splitGo_len s m n (i + 1) f; omega
theorem splitB_len (s : ByteArray) (m : Int) : (splitB s m).length ≤ s.size + 1 := splitGo_len s m _ _ _
theorem extract_list (s : ByteArray) (a b : Nat) : (s.extract a b).data.toList = (s.data.toList.drop a).take (b - a) := by
  rw [ByteArray.data_extract, Array.toList_extract, List.extract_eq_take_drop]
theorem list_at {s : ByteArray} {i : Nat} (h : i < s.size) : s.data.toList.drop i = s[i] :: s.data.toList.drop (i + 1) := by
  have h' : i < s.data.toList.length := by rw [Array.length_toList]; exact h
  rw [List.drop_eq_getElem_cons h']
  congr 1
/-- The two ways to cut are one. -/
theorem splitGo_list (s : ByteArray) (m : UInt8) : ∀ (n i f : Nat), i + n = s.size → f ≤ i → (splitGo s (m.toNat : Int) n i f).map (·.data.toList) = match splitL m (s.data.toList.drop i) with | [] => [] | p :: ps => ((s.data.toList.drop f).take (i - f) ++ p) :: ps
  | 0, i, f, hi, hf => by
    have e : s.data.toList.drop i = [] := List.drop_eq_nil_of_le (by rw [Array.length_toList]; have : s.data.size = s.size := rfl; omega)
    rw [e]
    simp only [splitGo, splitL, List.map_cons, List.map_nil, extract_list]
    rw [show s.size - f = i - f by omega]; simp
  | n + 1, i, f, hi, hf => by
    have hlt : i < s.size := by omega
    rw [list_at hlt, splitGo, splitL]
    have hb : byteI s i = (m.toNat : Int) ↔ s[i] = m := by
      rw [byteI_at hlt]
      constructor
      · intro h; exact UInt8.toNat_inj.1 (by omega)
      · intro h; rw [h]
    by_cases h : s[i] = m
    · rw [if_pos (hb.2 h), if_pos h]
      have ih := splitGo_list s m n (i + 1) (i + 1) (by omega) (Nat.le_refl _)
      rw [List.map_cons, ih, extract_list]
      have hne := splitL_ne m (s.data.toList.drop (i + 1))
      cases hs : splitL m (s.data.toList.drop (i + 1)) with
      | nil => exact absurd hs hne
      | cons p ps => simp
    · rw [if_neg (fun e => h (hb.1 e)), if_neg h]
      have ih := splitGo_list s m n (i + 1) f (by omega) (by omega)
      rw [ih]
      have hne := splitL_ne m (s.data.toList.drop (i + 1))
      cases hs : splitL m (s.data.toList.drop (i + 1)) with
      | nil => exact absurd hs hne
      | cons p ps =>
        have e : (s.data.toList.drop f).take (i + 1 - f) = (s.data.toList.drop f).take (i - f) ++ [s[i]] := by
          rw [show i + 1 - f = (i - f) + 1 by omega, List.take_add_one]
          congr 1
          rw [List.getElem?_drop, show f + (i - f) = i by omega]
          have h' : i < s.data.toList.length := by rw [Array.length_toList]; exact hlt
          rw [List.getElem?_eq_getElem h']; rfl
        simp [e]
theorem splitB_list (s : ByteArray) (m : UInt8) : (splitB s (m.toNat : Int)).map (·.data.toList) = splitL m s.data.toList := by
  have h := splitGo_list s m s.size 0 0 (by omega) (Nat.le_refl _)
  rw [splitB, h]
  have hne := splitL_ne m (s.data.toList.drop 0)
  rw [List.drop_zero] at hne ⊢
  cases hs : splitL m s.data.toList with
  | nil => exact absurd hs hne
  | cons p ps => simp
theorem splitB_pos (s : ByteArray) (m : UInt8) : 0 < (splitB s (m.toNat : Int)).length := by
  have h := congrArg List.length (splitB_list s m)
  rw [List.length_map] at h
  have := List.length_pos_iff.2 (splitL_ne m s.data.toList)
  omega
theorem splitB_join (s : ByteArray) (m : UInt8) : joinB (splitB s (m.toNat : Int)) ⟨#[m]⟩ = s := by
  apply ba_ext
  rw [joinB_data, splitB_list]
  exact splitL_join m _
theorem map_data_inj : ∀ {a b : List ByteArray}, a.map (·.data.toList) = b.map (·.data.toList) → a = b
  | [], [], _ => rfl
  | [], _ :: _, h => by simp at h
  | _ :: _, [], h => by simp at h
  | x :: a, y :: b, h => by
    simp only [List.map_cons, List.cons.injEq] at h
    rw [ba_ext h.1, map_data_inj h.2]
/-- What is joined of parts that lack the mark is cut into them. -/
theorem splitB_of_join {ps : List ByteArray} {m : UInt8} (h0 : ps ≠ []) (h : ∀ p ∈ ps, m ∉ p.data.toList) : splitB (joinB ps ⟨#[m]⟩) (m.toNat : Int) = ps := by
  apply map_data_inj
  rw [splitB_list, joinB_data]
  refine splitL_of_join (by simpa using h0) fun p hp => ?_
  obtain ⟨x, hx, rfl⟩ := List.mem_map.1 hp
  exact h x hx
end Go.Proofs.YtekadjjofcicaaaDoor
