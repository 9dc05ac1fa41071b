
/- The order of a graph: the specification. No conditions but those written. -/
import Derived.Test.YteamcpcjooglaaaDoorTh
namespace Go.Proofs.YteamcpcjooglaaaDoor
open Go.RowKit

/-- How many of these lead to it. -/
def ledS (gs : List PNode) (l : List Int) (x : Nat) : Nat := (l.map fun a => (nxP gs a.toNat).count (x : Int)).sum
theorem ledS_nums {gs : List PNode} (x : Nat) : ∀ k, k ≤ gs.length → ledS gs (numsI k) x = ledC gs k x
  | 0, _ => by simp [ledS, ledC, numsI]
  | k + 1, hk => by
    rw [ledC_succ (by omega), ← ledS_nums x k (by omega), ledS, numsI_succ]
    simp [ledS]
theorem split_at {l : List Int} {p : Nat} (hp : p < l.length) : l = l.take p ++ el l p :: l.drop (p + 1) := by
  rw [el_at hp, ← List.drop_eq_getElem_cons hp, List.take_append_drop]
theorem ledS_cut (gs : List PNode) {l : List Int} {p : Nat} (hp : p < l.length) (x : Nat) : ledS gs l x = ledS gs (l.take p ++ l.drop (p + 1)) x + (nxP gs (el l p).toNat).count (x : Int) := by
  rw [ledS, split_at hp]
  simp only [ledS, List.map_append, List.sum_append, List.map_cons, List.sum_cons]
  rw [← split_at hp]
  omega
theorem ledS_zero (gs : List PNode) (x : Nat) : ∀ l : List Int, ledS gs l x = 0 ↔ ledP gs l (x : Int) = false
  | [] => by simp [ledS, ledP]
  | a :: r => by
    have ih := ledS_zero gs x r
    have e : ledS gs (a :: r) x = (nxP gs a.toNat).count (x : Int) + ledS gs r x := by simp [ledS]
    have e2 : ledP gs (a :: r) (x : Int) = (leadsP gs a (x : Int) || ledP gs r (x : Int)) := by simp [ledP]
    rw [e, e2, Bool.or_eq_false_iff, ← ih]
    have e3 : leadsP gs a (x : Int) = false ↔ (nxP gs a.toNat).count (x : Int) = 0 := by
      rw [List.count_eq_zero]
      show hasB (nxP gs a.toNat) (x : Int) = false ↔ _
      simp [hasB]
    rw [e3]; omega
theorem ledS_le {gs : List PNode} (hE : EdgesIn gs) (x : Nat) : ∀ l : List Int, (∀ a ∈ l, ∃ j : Nat, j < gs.length ∧ a = (j : Int)) → ledS gs l x ≤ 10 * l.length
  | [], _ => by simp [ledS]
  | a :: r, h => by
    have ih := ledS_le hE x r fun b hb => h b (by simp [hb])
    obtain ⟨j, hj, rfl⟩ := h a (by simp)
    have e : ledS gs ((j : Int) :: r) x = (nxP gs j).count (x : Int) + ledS gs r x := by simp [ledS]
    have h2 := hE.few j hj
    have h3 : (nxP gs j).count (x : Int) ≤ (nxP gs j).length := List.count_le_length
    rw [e]; simp only [List.length_cons]; omega
/-- The counts, some being taken away. -/
def decL (L nx : List Int) : List Int := (List.range L.length).map fun x : Nat => el L x - (nx.count (x : Int) : Nat)
theorem decL_len (L nx : List Int) : (decL L nx).length = L.length := by simp [decL]
theorem decL_el {L : List Int} {x : Nat} (hx : x < L.length) (nx : List Int) : el (decL L nx) x = el L x - (nx.count (x : Int) : Nat) := by simp [decL, el, hx]
theorem decL_nil (L : List Int) : decL L [] = L := by
  refine List.ext_getElem (by simp [decL]) fun i h1 h2 => ?_
  simp [decL, el, h2]
theorem decL_step {L : List Int} {j : Nat} (nx : List Int) : (decL L nx).set j (el L j - (nx.count (j : Int) : Nat) - 1) = decL L (nx ++ [(j : Int)]) := by
  refine List.ext_getElem (by simp [decL]) fun i h1 h2 => ?_
  have hi : i < L.length := by simpa [decL] using h2
  rw [List.getElem_set]
  by_cases e : j = i
  · subst e; simp [decL, List.count_append]; omega
  · rw [if_neg e]
    have hne : ((j : Nat) : Int) ≠ ((i : Nat) : Int) := by omega
    simp [decL, List.count_append, List.count_singleton, hne]
/-- The counts tell of those that are left. -/
structure Led (gs : List PNode) (l L : List Int) : Prop where
  len : L.length = gs.length
  inn : ∀ x : Nat, x < gs.length → (x : Int) ∈ l → el L x = ((ledS gs l x : Nat) : Int)
  out : ∀ x : Nat, x < gs.length → (x : Int) ∉ l → el L x < 0
  low : ∀ x : Nat, x < gs.length → -(1 + 10 * ((gs.length : Int) - (l.length : Int))) ≤ el L x
  top : ∀ x : Nat, x < gs.length → el L x ≤ 100
  rng : ∀ a ∈ l, ∃ j : Nat, j < gs.length ∧ a = (j : Int)
  inc : l.Pairwise (· < ·)
theorem numsI_inc (n : Nat) : (numsI n).Pairwise (· < ·) := by
  rw [numsI]
  refine List.Pairwise.map _ (fun a b h => ?_) List.pairwise_lt_range
  omega
theorem Led.start {gs : List PNode} (hE : EdgesIn gs) : Led gs (numsI gs.length) (ledL gs gs.length []) where
  len := ledL_len _ _ _
  inn x hx _ := by rw [ledL_el hx, ledS_nums x _ (Nat.le_refl _)]; simp
  out x hx h := absurd (by simp only [numsI, List.mem_map, List.mem_range]; exact ⟨x, hx, rfl⟩) h
  low x hx := by rw [ledL_el hx, numsI_len]; omega
  top x hx := by have := ledC_le hE x gs.length (Nat.le_refl _); have := hE.many; rw [ledL_el hx]; simp; omega
  rng a ha := numsI_mem ha
  inc := numsI_inc _
theorem cut_eq (l : List Int) (p : Nat) : l.take p ++ l.drop (p + 1) = l.eraseIdx p := (List.eraseIdx_eq_take_drop_succ _ _).symm
theorem inc_nodup {l : List Int} (h : l.Pairwise (· < ·)) : l.Nodup := h.imp fun hab => by omega
theorem mem_cutI {l : List Int} (h : l.Nodup) {p : Nat} (hp : p < l.length) (x : Int) : x ∈ l.take p ++ l.drop (p + 1) ↔ x ∈ l ∧ x ≠ el l p := by
  have h2 := h
  rw [split_at hp] at h2
  rw [List.nodup_append] at h2
  obtain ⟨h3, h4, h5⟩ := h2
  rw [List.nodup_cons] at h4
  have hs := split_at hp
  constructor
  · intro hx
    rw [List.mem_append] at hx
    constructor
    · rw [hs, List.mem_append, List.mem_cons]
      rcases hx with hx | hx
      · exact .inl hx
      · exact .inr (.inr hx)
    · rintro rfl
      rcases hx with hx | hx
      · exact h5 _ hx _ List.mem_cons_self rfl
      · exact h4.1 hx
  · rintro ⟨hx, hne⟩
    rw [hs, List.mem_append, List.mem_cons] at hx
    rw [List.mem_append]
    rcases hx with hx | rfl | hx
    · exact .inl hx
    · exact absurd rfl hne
    · exact .inr hx
theorem el_setI {L : List Int} {k x : Nat} {v : Int} (hk : k < L.length) : el (L.set k v) x = if x = k then v else el L x := by
  by_cases e : x = k
  · subst e; simp [el, hk]
  · rw [if_neg e]; simp [el, Ne.symm e]
theorem Led.step {gs : List PNode} (hE : EdgesIn gs) {l L : List Int} (h : Led gs l L) {p k : Nat} (hp : p < l.length) (hk : el l p = (k : Int)) : Led gs (l.take p ++ l.drop (p + 1)) (decL (L.set k (-1)) (nxP gs k)) := by
  have hkn : k < gs.length := by obtain ⟨j, hj, e⟩ := h.rng _ (el_mem hp); rw [hk] at e; omega
  have hkL : k < L.length := by rw [h.len]; exact hkn
  have hnd := inc_nodup h.inc
  have hlen : (l.take p ++ l.drop (p + 1)).length = l.length - 1 := by simp; omega
  have hel : ∀ x, x < gs.length → el (decL (L.set k (-1)) (nxP gs k)) x = (if x = k then -1 else el L x) - ((nxP gs k).count (x : Int) : Nat) := fun x hx => by
    rw [decL_el (by rw [List.length_set, h.len]; exact hx), el_setI hkL]
  have hc : ∀ x : Nat, (nxP gs k).count (x : Int) ≤ 10 := fun x => Nat.le_trans List.count_le_length (hE.few k hkn)
  refine ⟨by rw [decL_len, List.length_set, h.len], fun x hx hm => ?_, fun x hx hm => ?_, fun x hx => ?_, fun x hx => ?_, fun a ha => h.rng a ((mem_cutI hnd hp a).1 ha).1, by rw [cut_eq]; exact h.inc.sublist (List.eraseIdx_sublist _ _)⟩
  · obtain ⟨h1, h2⟩ := (mem_cutI hnd hp _).1 hm
    have hne : x ≠ k := fun e => h2 (by rw [hk, e])
    have h3 := ledS_cut gs hp x
    rw [hk, Int.toNat_natCast] at h3
    rw [hel x hx, if_neg hne, h.inn x hx h1]; omega
  · rw [hel x hx]
    by_cases e : x = k
    · rw [if_pos e]; omega
    · rw [if_neg e]
      have := h.out x hx fun hm2 => hm ((mem_cutI hnd hp _).2 ⟨hm2, fun e2 => e (by rw [hk] at e2; omega)⟩)
      omega
  · rw [hel x hx, hlen]
    have h1 := h.low x hx
    have h2 := hc x
    have h3 : l.length ≤ gs.length := by
      have : l.length ≤ (numsI gs.length).length := (inc_nodup h.inc).length_le_of_subset fun a ha => by
        obtain ⟨j, hj, rfl⟩ := h.rng a ha
        simp only [numsI, List.mem_map, List.mem_range]; exact ⟨j, hj, rfl⟩
      rw [numsI_len] at this; exact this
    split <;> omega
  · rw [hel x hx]
    have := h.top x hx
    split <;> omega
/-- Where the search for the next one stops, and that it goes on before. -/
theorem Led.find {gs : List PNode} {l L : List Int} (h : Led gs l L) {p k : Nat} (hp : l.findIdx? (fun b => !ledP gs l b) = some p) (hk : el l p = (k : Int)) : p < l.length ∧ k < gs.length ∧ el L k = 0 ∧ ∀ j, j < k → el L j ≠ 0 := by
  rw [List.findIdx?_eq_some_iff_getElem] at hp
  obtain ⟨hpl, hpt, hpn⟩ := hp
  rw [← el_at hpl, hk] at hpt
  obtain ⟨j, hj, e⟩ := h.rng _ (el_mem hpl)
  rw [hk] at e
  obtain rfl : k = j := by omega
  have hm : (k : Int) ∈ l := by rw [← hk]; exact el_mem hpl
  have h0 : ledS gs l k = 0 := (ledS_zero gs k l).2 (by simpa using hpt)
  refine ⟨hpl, hj, by rw [h.inn k hj hm, h0]; rfl, fun x hx hz => ?_⟩
  by_cases hxm : (x : Int) ∈ l
  · rw [h.inn x (by omega) hxm] at hz
    have hz2 : ledP gs l (x : Int) = false := (ledS_zero gs x l).1 (by omega)
    obtain ⟨i, hi, ei⟩ := mem_el hxm
    have hip : i < p := by
      rcases Nat.lt_trichotomy i p with h1 | h1 | h1
      · exact h1
      · subst h1; rw [hk] at ei; omega
      · have := List.pairwise_iff_getElem.1 h.inc p i hpl hi h1
        rw [← el_at hpl, ← el_at hi, hk, ei] at this; omega
    have h3 := hpn i hip
    rw [← el_at hi, ei, hz2] at h3
    simp at h3
  · have := h.out x (by omega) hxm
    omega
set_option maxRecDepth 10000 in
set_option maxHeartbeats 16000000 in
theorem l11Order_is (ao : Option Addr) (cap : Nat) (ts : List LNode) (w : World) (hE : EdgesIn (ts.map valNode)) (hR : ¬ (orderP (ts.map valNode)).length < (ts.map valNode).length) (hz : DIn dNode w.heap.size w ao ts) :
    Calls Tryd.prog 22 #[.slice ao ts.length cap] w fun e w' => AnsI w (orderP (ts.map valNode)) e w' := by
  have h10 : ts.length ≤ 10 := by have := hE.many; simpa using this
  have hcon := l11Led_is ao cap ts w hE hz
  have HE := hid hE
  have hnode : Hid (∀ k, k < ts.length → ∃ b off nxo nxc, ao = some ⟨b, off, none⟩ ∧ b < w.heap.size ∧ w.cell? ⟨b, off + k * 6 + 5, none⟩ = some (.slice nxo (nxP (ts.map valNode) k).length nxc) ∧ kI.In w.heap.size w nxo (nxP (ts.map valNode) k)) := fun k hk => by
    obtain ⟨b, off, e, hb, hc⟩ := hNode_at hz.1 hk
    have d6 := (hc k hk).2.2.2.2.2
    have hin := hz.2 k hk
    have hev : nxP (ts.map valNode) k = (el ts k).2.2.2.2.2.2.2 := by rw [nxP, el_val hk]; rfl
    rw [hev]
    exact ⟨b, off, _, _, e, hb, d6, hin⟩
  obtain ⟨R, hRR⟩ : ∃ R, orderP (ts.map valNode) = R := ⟨_, rfl⟩
  have HR0 : Hid ((behindP (ts.map valNode) (numsI ts.length).length [] (numsI ts.length)).1 = R) := by rw [Hid, numsI_len, ← hRR, orderP, val_len]
  rw [hRR] at hR ⊢
  rw [val_len] at hR
  have HRL := hid hR
  clear hz hE hR hRR
  go_enter Tryd.func22, Tryd.ntmps22
  go_wp2_with (go_at_call 35; refine hcon.mono ?_; rintro e w1 ⟨rfl, hX1, hB1⟩; have X1 := hid hX1; clear hX1)
  have HS1 := hid X1.out.size
  have HL0 := hid (Led.start HE.out)
  rw [val_len] at HL0
  go_loopw [4] (fun u wr => ∃ (v : Value) (o l L : List Int), v = u ∧ o.length + l.length = ts.length ∧ Hid (kI.Own w1.heap.size wr v o) ∧ Hid (Bx wr w.heap.size (L.map (Value.int .i64))) ∧ Hid (Led (ts.map valNode) l L) ∧ Hid ((behindP (ts.map valNode) l.length o l).1 = R) ∧ Below w.heap.size w wr ∧ w1.heap.size ≤ wr.heap.size) (fun u _ => ts.length - lenOf u)
  case atStart => exact ⟨.slice none 0 0, [], numsI ts.length, _, rfl, by simp [numsI_len], Kind.Own.nil _ _ _, X1, HL0, HR0, hB1, Nat.le_refl _⟩
  case round =>
    clear HR0 HL0 X1 hB1
    obtain ⟨v, o, l, L, rfl, hol, hO, hX, hL, hR', hB, hsz⟩ := hrel
    obtain ⟨go, gc, rfl⟩ := own_slice hO.out
    by_cases hlt : o.length < ts.length
    · have hoi : (o.length : Int) < (ts.length : Int) := by omega
      cases hp : l.findIdx? (fun b => !ledP (ts.map valNode) l b) with
      | none =>
        exfalso
        have h1 := hR'.out
        have h2 := HRL.out
        cases l with
        | nil => simp at hol; omega
        | cons a r =>
          rw [List.length_cons, behindP, hp] at h1
          simp only at h1
          rw [← h1] at h2; exact h2 hlt
      | some p =>
        have hpl : p < l.length := by rw [List.findIdx?_eq_some_iff_getElem] at hp; exact hp.1
        obtain ⟨k, hk, hek⟩ := hL.out.rng _ (el_mem hpl)
        rw [val_len] at hk
        obtain ⟨_, _, hk0, hkn⟩ := hL.out.find hp hek
        have HK0 := hid hk0
        have HKN := hid hkn
        have HR2 : Hid ((behindP (ts.map valNode) (l.take p ++ l.drop (p + 1)).length (o ++ [(k : Int)]) (l.take p ++ l.drop (p + 1))).1 = R) := by
          rw [Hid, ← hR'.out]
          have e1 : (l.take p ++ l.drop (p + 1)).length = l.length - 1 := by simp; omega
          obtain ⟨m, hm⟩ : ∃ m, l.length = m + 1 := ⟨l.length - 1, by omega⟩
          rw [e1, hm, Nat.add_sub_cancel, behindP, hp, ← hek]
        have HL2 := hid (hL.out.step HE.out hpl hek)
        have hLl : L.length = ts.length := by have := hL.out.len; rw [val_len] at this; exact this
        have HLB := hid (fun (x : Nat) (hx : x < ts.length) => And.intro (hL.out.low x (by rw [val_len]; exact hx)) (hL.out.top x (by rw [val_len]; exact hx)))
        clear hp hk0 hkn hL hek
        go_wp2
        go_loopw [5] (fun i wr2 => ∃ j : Nat, i = .int .i64 (j : Int) ∧ j ≤ k ∧ wr2 = wr) (fun i _ => k - (intOf i).toNat)
        case atStart => exact ⟨0, rfl, Nat.zero_le _, rfl⟩
        case round =>
          rename_i wr3
          obtain ⟨j, rfl, hj, rfl⟩ := hrel
          have hji : (j : Int) < (ts.length : Int) := by omega
          have cj := hX.out.c j (map_elI (by omega))
          have fj := hX.out.f j (map_elI (by omega))
          by_cases hjk : j < k
          · have hne : (el L j != 0) = true := by simpa using HKN.out j hjk
            generalize el L j = z at cj hne fj
            go_wp2
            go_roundw
            case rel => exact ⟨j + 1, by go_num, by omega, trivial⟩
            case measure => simp [intOf]; omega
          · obtain rfl : j = k := by omega
            rw [HK0.out] at cj
            obtain ⟨b, off, nxo, nxc, rfl, hb, c6, hI⟩ := hnode.out j hk
            obtain ⟨nx, hnx⟩ : ∃ nx, nx = nxP (ts.map valNode) j := ⟨_, rfl⟩
            rw [← hnx] at c6 hI
            have HI := hid hI
            have HNX := hid hnx
            have hnl : nx.length ≤ 10 := by rw [hnx]; exact HE.out.few j (by rw [val_len]; exact hk)
            have HRG : Hid (∀ x ∈ nx, ∃ i : Nat, i < ts.length ∧ x = (i : Int)) := fun x hx => by
              rw [hnx] at hx
              obtain ⟨i, hi, e⟩ := HE.out.rng j (by rw [val_len]; exact hk) x hx
              rw [val_len] at hi
              exact ⟨i, hi, e⟩
            rw [← hnx] at HL2
            have hBV : Below w.heap.size w (wr.setCell ⟨w.heap.size, j, none⟩ (.int .i64 (-1))) := hB.setCell (p := ⟨w.heap.size, j, none⟩) (Nat.le_refl _) _
            have XV : Hid (Bx (wr.setCell ⟨w.heap.size, j, none⟩ (.int .i64 (-1))) w.heap.size ((L.set j (-1)).map (Value.int .i64))) := by rw [Hid, map_setI]; exact hX.out.set j _
            have OV : Hid (kI.Own w1.heap.size (wr.setCell ⟨w.heap.size, j, none⟩ (.int .i64 (-1))) (.slice go o.length gc) o) := hO.out.setBelow (a := ⟨w.heap.size, j, none⟩) (by simpa using HS1.out) _
            have HA : Hid (kI.Own w1.heap.size ((wr.setCell ⟨w.heap.size, j, none⟩ (.int .i64 (-1))).alloc (.cells #[.int .i64 (j : Int)] 3)) (.slice go o.length gc) o) := OV.out.below (below1 _ _)
            have HXA := hid (XV.out.alloc (.cells #[.int .i64 (j : Int)] 3))
            have HN : Hid (kI.In (wr.heap.size + 1) ((wr.setCell ⟨w.heap.size, j, none⟩ (.int .i64 (-1))).alloc (.cells #[.int .i64 (j : Int)] 3)) (some ⟨wr.heap.size, 0, none⟩) [(j : Int)]) := int_one (by omega) ((Bx.new (w := wr.setCell ⟨w.heap.size, j, none⟩ (.int .i64 (-1))) [.int .i64 (j : Int)] 3 (by simp [World.setCell])).c 0 rfl)
            have hBa : Below w.heap.size w ((wr.setCell ⟨w.heap.size, j, none⟩ (.int .i64 (-1))).alloc (.cells #[.int .i64 (j : Int)] 3)) := Below.allocS hBV _
            have HSW : Hid (w.heap.size ≤ w1.heap.size) := by have := HS1.out; rw [Hid]; omega
            obtain ⟨o2, ho2⟩ : ∃ o2, o2 = o ++ [(j : Int)] := ⟨_, rfl⟩
            have hleno : o2.length = o.length + 1 := by rw [ho2]; simp
            have HLN := hid hleno
            have hll : o.length + 1 ≤ 4194304 := by omega
            rw [← ho2] at HR2
            have HO2 := hid ho2
            clear hnx hI hBV OV XV ho2 hO hX hleno
            go_wp2_with (at_builtin; refine Kind.app kI_ok ((wr.setCell ⟨w.heap.size, j, none⟩ (.int .i64 (-1))).alloc (.cells #[.int .i64 (j : Int)] 3)) rfl (.tmp 25) (.tmp 27) rfl w1.heap.size (.slice go o.length gc) o rfl HA.out (by simp [World.setCell]; omega) (some ⟨wr.heap.size, 0, none⟩) [(j : Int)] 1 1 rfl rfl (by simp) _ HN.out hll ?_; intro v' w' hO' hB' hG' hn'; rw [← HO2.out] at hO'; obtain ⟨g2, c2, rfl⟩ := own_slice hO'; have hB2 : Below w.heap.size w w' := hBa.trans (hB'.mono HSW.out); have O2 := hid hO'; have X2 := hid (HXA.out.below hB' (by exact HS1.out)); have d6 := (hB2.cell (p := ⟨b, off + j * 6 + 5, none⟩) hb).trans c6; have hs2 : w1.heap.size ≤ w'.heap.size := (by have := hB'.size; simp [World.setCell] at this; omega); clear hO' hB' hG' hn')
            go_loopw [35] (fun i wr => ∃ m : Nat, i = .int .i64 (m : Int) ∧ m ≤ nx.length ∧ Hid (Bx wr w.heap.size ((decL (L.set j (-1)) (nx.take m)).map (Value.int .i64))) ∧ Hid (kI.Own w1.heap.size wr (.slice g2 o2.length c2) o2) ∧ Below w.heap.size w wr ∧ w1.heap.size ≤ wr.heap.size) (fun i _ => nx.length - (intOf i).toNat)
            case atStart => exact ⟨0, rfl, Nat.zero_le _, by rw [List.take_zero, decL_nil]; exact X2, O2, hB2, hs2⟩
            case round =>
              clear hB2 X2 O2 hs2 d6 hB hBa HA HXA HN
              obtain ⟨m, rfl, hm, hX, hO, hB, hs⟩ := hrel
              by_cases hmk : m < nx.length
              · obtain ⟨nb, noff, rfl, hnb, hnc⟩ := ints_at HI.out hmk
                have cm := (hB.cell (p := ⟨nb, noff + m, none⟩) hnb).trans (hnc m hmk)
                obtain ⟨i, hi, hx⟩ := HRG.out (el nx m) (el_mem hmk)
                rw [hx] at cm
                have HXJ := hid hx
                clear hx hnc
                have hmi : (m : Int) < (nx.length : Int) := by omega
                have hii : (i : Int) < (ts.length : Int) := by omega
                have hil : i < (L.set j (-1)).length := by rw [List.length_set]; omega
                have ci := hX.out.c i (map_elI (by rw [decL_len]; exact hil))
                have fi := hX.out.f i (map_elI (by rw [decL_len]; exact hil))
                rw [decL_el hil] at ci
                have hq2 : (nx.take m).count (i : Int) ≤ 10 := Nat.le_trans List.count_le_length (by simp; omega)
                obtain ⟨hq1, hq3⟩ := HLB.out i hi
                rw [val_len] at hq1
                have hq4 : -1000 ≤ el (L.set j (-1)) i ∧ el (L.set j (-1)) i ≤ 1000 := by
                  rw [el_setI (by omega)]
                  split <;> omega
                have HST := hid (decL_step (L := L.set j (-1)) (j := i) (nx.take m))
                rw [← HXJ.out, ← take_succ_el hmk] at HST
                rw [HXJ.out] at HST
                obtain ⟨z, hz⟩ : ∃ z : Int, z = el (L.set j (-1)) i - ((nx.take m).count (i : Int) : Nat) := ⟨_, rfl⟩
                rw [← hz] at HST ci
                have hz1 : -2000 ≤ z ∧ z ≤ 2000 := by omega
                clear hz hq1 hq2 hq3 hq4 hil
                have HS := hid (hX.out.set i (.int .i64 (z - 1)))
                rw [← map_setI, HST.out] at HS
                have hB3 := hB.setCell (p := ⟨w.heap.size, i, none⟩) (Nat.le_refl _) (.int .i64 (z - 1))
                have O3 := hid (hO.out.setBelow (a := ⟨w.heap.size, i, none⟩) (by simpa using HS1.out) (.int .i64 (z - 1)))
                go_wp2
                go_roundw
                case rel => exact ⟨m + 1, by go_num, by omega, HS, O3, hB3, by simpa [World.setCell] using hs⟩
                case measure => simp [intOf]; omega
              · obtain rfl : m = nx.length := by omega
                rw [List.take_length] at hX
                go_wp2
                go_roundw
                case rel => exact ⟨_, o2, l.take p ++ l.drop (p + 1), _, rfl, by rw [HLN.out]; simp; omega, hO, hX, HL2, HR2, hB, hs⟩
                case measure => have := HLN.out; simp [lenOf]; omega
    · have hl0 : l = [] := List.length_eq_zero_iff.1 (by omega)
      have HRO : Hid (o = R) := by rw [Hid, ← hR'.out, hl0]; rfl
      obtain ⟨go', gc', e1, _, hFF⟩ := hO.out.fresh
      obtain ⟨rfl, rfl⟩ : go = go' ∧ gc = gc' := by simp at e1; exact e1
      have HF := hid (hFF.wide (lo' := w.heap.size) (hi' := wr.heap.size) (by have := HS1.out; omega) (Nat.le_refl _))
      have hoe : o.length = ts.length := by omega
      clear hFF e1 hl0
      go_wp2
      go_ret
      rw [← HRO.out]
      exact ⟨⟨_, _, rfl, HF.out⟩, hB⟩
/-- What OrderOf answers. -/
def orderR (gs : List PNode) : List Int × Bool := if codeG gs = 0 then (orderP gs, true) else ([], false)
theorem orderR_len (gs : List PNode) : (orderR gs).1.length ≤ 10 := by
  rw [orderR]
  split
  · next h =>
    have h1 := (codeG_zero h).1
    have h2 := behindP_len gs gs.length [] (numsI gs.length)
    show (orderP gs).length ≤ 10
    rw [orderP]; simp at h2; omega
  · simp
end Go.Proofs.YteamcpcjooglaaaDoor
