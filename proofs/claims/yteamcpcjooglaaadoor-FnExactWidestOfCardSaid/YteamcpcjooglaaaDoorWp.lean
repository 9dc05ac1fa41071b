
/- The widest of a graph, plainly; the specification. No conditions but those written. -/
import Derived.Test.YteamcpcjooglaaaDoorOd
namespace Go.Proofs.YteamcpcjooglaaaDoor
open Go.RowKit

theorem factI_rng (k a b : Int) : 0 ≤ factI k a b ∧ factI k a b ≤ 3 := by
  unfold factI
  split
  · next h =>
    split
    · next h3 => subst h3; simp [goodSt] at h; omega
    · omega
  · omega
/-- What comes of the nodes that one leads to. -/
def sumW (wd nx : List Int) : Int := (nx.map fun x => el wd x.toNat).sum
theorem sumW_nil (wd : List Int) : sumW wd [] = 0 := rfl
theorem sumW_succ {wd nx : List Int} {m : Nat} (hm : m < nx.length) : sumW wd (nx.take (m + 1)) = sumW wd (nx.take m) + el wd (el nx m).toNat := by rw [sumW, take_succ_el hm]; simp [sumW]
/-- What comes of a node. -/
def wNew (gs : List PNode) (wd : List Int) (k : Nat) : Int := factI (el gs k).2.1 (el gs k).2.2.1 (el gs k).2.2.2.1 * (if (nxP gs k).length = 0 then 1 else sumW wd (nxP gs k))
/-- The first t of a row of nodes are counted. -/
def wdAt (gs : List PNode) (ro : List Int) : Nat → List Int
  | 0 => List.replicate gs.length 0
  | t + 1 => (wdAt gs ro t).set (el ro t).toNat (wNew gs (wdAt gs ro t) (el ro t).toNat)
theorem wdAt_len (gs : List PNode) (ro : List Int) : ∀ t, (wdAt gs ro t).length = gs.length
  | 0 => by simp [wdAt]
  | t + 1 => by simp [wdAt, wdAt_len gs ro t]
/-- The greatest of a row of numbers, 0 at least. -/
def maxL : List Int → Int
  | [] => 0
  | x :: r => max x (maxL r)
theorem maxL_nn : ∀ l, 0 ≤ maxL l
  | [] => Int.le_refl _
  | x :: r => by have := maxL_nn r; simp only [maxL]; omega
theorem maxL_set : ∀ (l : List Int) (k : Nat) (v : Int), k < l.length → el l k = 0 → 0 ≤ v → maxL (l.set k v) = max (maxL l) v
  | [], k, v, hk, _, _ => by simp at hk
  | x :: r, 0, v, _, h0, hv => by
    have hx : x = 0 := by simpa [el] using h0
    have := maxL_nn r
    simp only [List.set_cons_zero, maxL, hx]; omega
  | x :: r, k + 1, v, hk, h0, hv => by
    have ih := maxL_set r k v (by simpa using hk) (by rw [el_cons] at h0; exact h0) hv
    simp only [List.set_cons_succ, maxL, ih]; omega
theorem maxL_snoc : ∀ (l : List Int) (x : Int), 0 ≤ x → maxL (l ++ [x]) = max (maxL l) x
  | [], x, hx => by simp only [List.nil_append, maxL]; omega
  | y :: r, x, hx => by simp only [List.cons_append, maxL, maxL_snoc r x hx]; omega
theorem maxL_zero (n : Nat) : maxL (List.replicate n 0) = 0 := by
  induction n with
  | zero => rfl
  | succ n ih => simp only [List.replicate_succ, maxL, ih]; rfl
/-- Each of its numbers lies within these bounds. -/
def Bnd (B : Int) (l : List Int) : Prop := ∀ j, j < l.length → 0 ≤ el l j ∧ el l j ≤ B
theorem sumW_bnd {wd : List Int} {B : Int} (hb : Bnd B wd) (hB : 0 ≤ B) : ∀ nx : List Int, (∀ x ∈ nx, ∃ j : Nat, j < wd.length ∧ x = (j : Int)) → 0 ≤ sumW wd nx ∧ sumW wd nx ≤ B * (nx.length : Int)
  | [], _ => by simp [sumW]
  | x :: r, h => by
    have ih := sumW_bnd hb hB r fun y hy => h y (by simp [hy])
    obtain ⟨j, hj, rfl⟩ := h x (by simp)
    have h1 := hb j hj
    have e : sumW wd ((j : Int) :: r) = el wd j + sumW wd r := by simp [sumW]
    rw [e, List.length_cons]
    push_cast
    rw [Int.mul_add, Int.mul_one]
    omega
/-- A row of nodes, none twice. -/
structure Ro (gs : List PNode) (ro : List Int) : Prop where
  rng : ∀ x ∈ ro, ∃ j : Nat, j < gs.length ∧ x = (j : Int)
  one : ro.Nodup
  len : ro.length ≤ 10
theorem mul_le3 {f z B : Int} (h0 : 0 ≤ f) (h3 : f ≤ 3) (hz : 0 ≤ z) (hB : z ≤ B) : 0 ≤ f * z ∧ f * z ≤ 3 * B := by
  rcases (show f = 0 ∨ f = 1 ∨ f = 2 ∨ f = 3 from by omega) with rfl | rfl | rfl | rfl <;> omega
theorem wNew_bnd {gs : List PNode} (hE : EdgesIn gs) {wd : List Int} {B : Int} (hl : wd.length = gs.length) (hb : Bnd B wd) (hB : 1 ≤ B) {k : Nat} (hk : k < gs.length) : 0 ≤ wNew gs wd k ∧ wNew gs wd k ≤ 30 * B := by
  have hf := factI_rng (el gs k).2.1 (el gs k).2.2.1 (el gs k).2.2.2.1
  have hs := sumW_bnd hb (by omega) (nxP gs k) fun x hx => by rw [hl]; exact hE.rng k hk x hx
  have hn := hE.few k hk
  have hz : 0 ≤ (if (nxP gs k).length = 0 then 1 else sumW wd (nxP gs k)) ∧ (if (nxP gs k).length = 0 then 1 else sumW wd (nxP gs k)) ≤ 10 * B := by
    split
    · omega
    · refine ⟨hs.1, Int.le_trans hs.2 ?_⟩
      rw [Int.mul_comm 10 B]
      exact Int.mul_le_mul_of_nonneg_left (by omega) (by omega)
  have := mul_le3 hf.1 hf.2 hz.1 hz.2
  unfold wNew
  omega
theorem wdAt_bnd {gs : List PNode} (hE : EdgesIn gs) {ro : List Int} (hr : ∀ x ∈ ro, ∃ j : Nat, j < gs.length ∧ x = (j : Int)) : ∀ t, t ≤ ro.length → Bnd (30 ^ t) (wdAt gs ro t)
  | 0, _ => fun j hj => by simp [wdAt] at hj; simp [wdAt, el, hj]
  | t + 1, ht => fun j hj => by
    have ih := wdAt_bnd hE hr t (by omega)
    have hp : (1 : Int) ≤ 30 ^ t := by have : 0 < (30 : Int) ^ t := Int.pow_pos (by omega); omega
    obtain ⟨k, hk, ek⟩ := hr _ (el_mem (show t < ro.length by omega))
    have hn := wNew_bnd hE (wdAt_len gs ro t) ih hp hk
    have hj' : j < gs.length := by rw [wdAt_len] at hj; exact hj
    have e30 : (30 : Int) ^ (t + 1) = 30 * 30 ^ t := by rw [Int.pow_succ]; omega
    rw [wdAt, ek, Int.toNat_natCast, el_setI (by rw [wdAt_len]; exact hk), e30]
    split
    · exact hn
    · have := ih j (by rw [wdAt_len]; exact hj'); omega
theorem pow30_le : ∀ t, t ≤ 10 → (30 : Int) ^ t ≤ 590490000000000 := fun t ht => by
  rcases (show t = 0 ∨ t = 1 ∨ t = 2 ∨ t = 3 ∨ t = 4 ∨ t = 5 ∨ t = 6 ∨ t = 7 ∨ t = 8 ∨ t = 9 ∨ t = 10 from by omega) with rfl | rfl | rfl | rfl | rfl | rfl | rfl | rfl | rfl | rfl | rfl <;> decide
/-- Bounds that serve every step. -/
theorem wdAt_big {gs : List PNode} (hE : EdgesIn gs) {ro : List Int} (hr : ∀ x ∈ ro, ∃ j : Nat, j < gs.length ∧ x = (j : Int)) (hl : ro.length ≤ 10) {t : Nat} (ht : t ≤ ro.length) : Bnd 590490000000000 (wdAt gs ro t) := fun j hj => by
  have h1 := wdAt_bnd hE hr t ht j hj
  have h2 := pow30_le t (by omega)
  omega
/-- Not yet counted: nothing. -/
theorem wdAt_zero {gs : List PNode} {ro : List Int} (hr : Ro gs ro) {k : Nat} (hk : k < gs.length) : ∀ t, t ≤ ro.length → (k : Int) ∉ ro.take t → el (wdAt gs ro t) k = 0
  | 0, _, _ => by simp [wdAt, el, hk]
  | t + 1, ht, hn => by
    rw [take_succ_el (by omega)] at hn
    obtain ⟨j, hj, ej⟩ := hr.rng _ (el_mem (show t < ro.length by omega))
    have hne : k ≠ j := fun e => hn (by rw [ej, e]; simp)
    rw [wdAt, ej, Int.toNat_natCast, el_setI (by rw [wdAt_len]; exact hj), if_neg hne]
    exact wdAt_zero hr hk t (by omega) fun h => hn (by simp [h])
theorem wdAt_max {gs : List PNode} (hE : EdgesIn gs) {ro : List Int} (hr : Ro gs ro) {t k : Nat} (ht : t < ro.length) (ek : el ro t = (k : Int)) : maxL (wdAt gs ro (t + 1)) = max (maxL (wdAt gs ro t)) (wNew gs (wdAt gs ro t) k) := by
  obtain ⟨j, hj, e⟩ := hr.rng _ (el_mem ht)
  rw [ek] at e
  obtain rfl : k = j := by omega
  have hb := wNew_bnd hE (wdAt_len gs ro t) (wdAt_bnd hE hr.rng t (by omega)) (by have : 0 < (30 : Int) ^ t := Int.pow_pos (by omega); omega) hj
  have h0 := wdAt_zero hr hj t (by omega) fun h => nodup_take ht hr.one (by rw [ek]; exact h)
  rw [wdAt, ek, Int.toNat_natCast]
  exact maxL_set _ _ _ (by rw [wdAt_len]; exact hj) h0 hb.1
/-- An order has each node once. -/
theorem behindP_perm (gs : List PNode) : ∀ (n : Nat) (o l : List Int), ((behindP gs n o l).1 ++ (behindP gs n o l).2).Perm (o ++ l)
  | 0, o, l => List.Perm.refl _
  | n + 1, o, l => by
    rw [behindP]
    cases hp : l.findIdx? (fun b => !ledP gs l b) with
    | none => exact List.Perm.refl _
    | some k =>
      have hk : k < l.length := by rw [List.findIdx?_eq_some_iff_getElem] at hp; exact hp.1
      refine (behindP_perm gs n _ _).trans ?_
      have hs := split_at hk
      rw [List.append_assoc]
      refine List.Perm.append_left o ?_
      have h := (List.perm_middle (a := el l k) (l₁ := l.take k) (l₂ := l.drop (k + 1))).symm
      rw [← hs] at h
      exact h
theorem orderP_ro {gs : List PNode} (h10 : gs.length ≤ 10) : Ro gs (orderP gs).reverse := by
  have hp := behindP_perm gs gs.length [] (numsI gs.length)
  rw [List.nil_append] at hp
  have hnd : (numsI gs.length).Nodup := inc_nodup (numsI_inc _)
  have hnd2 := (hp.nodup_iff.2 hnd)
  rw [List.nodup_append] at hnd2
  refine ⟨fun x hx => ?_, by rw [List.Nodup, List.pairwise_reverse]; exact List.Pairwise.imp Ne.symm hnd2.1, ?_⟩
  · exact numsI_mem (hp.subset (List.mem_append_left _ (List.mem_reverse.1 hx)))
  · rw [List.length_reverse]
    have h2 := behindP_len gs gs.length [] (numsI gs.length)
    rw [orderP]; simp at h2; omega
theorem el_reverse {l : List Int} {t : Nat} (ht : t < l.length) : el l.reverse t = el l (l.length - 1 - t) := by
  rw [el_at (by simpa using ht), el_at (by omega), List.getElem_reverse]
/-- The counts behind a row of nodes. -/
def wdOf (gs : List PNode) (ro : List Int) : List Int := ro.foldl (fun wd y => wd.set y.toNat (wNew gs wd y.toNat)) (List.replicate gs.length 0)
theorem wdOf_snoc (gs : List PNode) (ro : List Int) (y : Int) : wdOf gs (ro ++ [y]) = (wdOf gs ro).set y.toNat (wNew gs (wdOf gs ro) y.toNat) := by rw [wdOf, List.foldl_append]; rfl
theorem wdOf_at (gs : List PNode) (ro : List Int) : ∀ t, t ≤ ro.length → wdAt gs ro t = wdOf gs (ro.take t)
  | 0, _ => by rw [List.take_zero]; rfl
  | t + 1, ht => by rw [take_succ_el (by omega), wdOf_snoc, wdAt, wdOf_at gs ro t (by omega)]
theorem wdOf_all (gs : List PNode) (ro : List Int) : wdAt gs ro ro.length = wdOf gs ro := by rw [wdOf_at gs ro _ (Nat.le_refl _), List.take_length]
/-- What WidestOf answers. -/
def widP (gs : List PNode) : Int := maxL (wdAt gs (orderP gs).reverse (orderP gs).length)
def widR (gs : List PNode) : Int × Bool := if codeG gs = 0 then (widP gs, true) else (0, false)
set_option maxRecDepth 10000 in
set_option maxHeartbeats 16000000 in
theorem l11Widest_is (ao : Option Addr) (cap : Nat) (ts : List LNode) (w : World) (hE : EdgesIn (ts.map valNode)) (hR : ¬ (orderP (ts.map valNode)).length < (ts.map valNode).length) (hz : DIn dNode w.heap.size w ao ts) :
    Calls Tryd.prog 11 #[.slice ao ts.length cap] w fun e w' => e = .returned (.int .i64 (widP (ts.map valNode))) ∧ Below w.heap.size w w' := by
  obtain ⟨i0, hi, hz0, hz1, hz2⟩ := info_parts Tryd.info3
  have h10 : ts.length ≤ 10 := by have := hE.many; simpa using this
  have hcon := l11Order_is ao cap ts w hE hR hz
  have HRO := hid (orderP_ro (gs := ts.map valNode) (by rw [val_len]; exact h10))
  have HE := hid hE
  have hnode : Hid (∀ k, k < ts.length → ∃ b off nxo nxc, ao = some ⟨b, off, none⟩ ∧ b < w.heap.size ∧ w.cell? ⟨b, off + k * 6 + 5, none⟩ = some (.slice nxo (nxP (ts.map valNode) k).length nxc) ∧ kI.In w.heap.size w nxo (nxP (ts.map valNode) k) ∧ w.cell? ⟨b, off + k * 6 + 1, none⟩ = some (.int .i64 (el (ts.map valNode) k).2.1) ∧ w.cell? ⟨b, off + k * 6 + 2, none⟩ = some (.int .i64 (el (ts.map valNode) k).2.2.1) ∧ w.cell? ⟨b, off + k * 6 + 3, none⟩ = some (.int .i64 (el (ts.map valNode) k).2.2.2.1)) := fun k hk => by
    obtain ⟨b, off, e, hb, hc⟩ := hNode_at hz.1 hk
    have d := hc k hk
    have hin := hz.2 k hk
    have hev : nxP (ts.map valNode) k = (el ts k).2.2.2.2.2.2.2 := by rw [nxP, el_val hk]; rfl
    rw [hev, el_val hk]
    exact ⟨b, off, _, _, e, hb, d.2.2.2.2.2, hin, d.2.1, d.2.2.1, d.2.2.2.1⟩
  have HW : Hid (widP (ts.map valNode) = maxL (wdAt (ts.map valNode) (orderP (ts.map valNode)).reverse (orderP (ts.map valNode)).length)) := rfl
  obtain ⟨R, hRR⟩ : ∃ R, orderP (ts.map valNode) = R := ⟨_, rfl⟩
  rw [hRR] at hcon HRO HW
  have hRl : R.length ≤ 10 := by have := HRO.out.len; simpa using this
  obtain ⟨gs, hgs⟩ : ∃ gs, gs = ts.map valNode := ⟨_, rfl⟩
  have hgl : gs.length = ts.length := by rw [hgs, val_len]
  rw [← hgs] at HRO HE hnode HW ⊢
  have HGL := hid hgl
  clear hz hE hR hRR hgs
  go_enter Tryd.func11, Tryd.ntmps11
  go_wp2_with (first
    | (go_at_call 22; refine hcon.mono ?_; rintro e w1 ⟨⟨ro, rc, rfl, hF1⟩, hB1⟩; have F1 := hid hF1; clear hF1)
    | (at_make; refine wpList_make_full _ rfl _ _ 33 rfl w1.heap.size 3 i0 (.int .i64 0) 1 Tryd.underlying33 hi hz0 hz1 .i64 .i64 _ _ ts.length rfl rfl rfl rfl (by rw [hz2]; omega) (by unfold maxLen; omega) (Nat.le_refl _) ?_; intro w2 hown hgrow; have hB2 : Below w1.heap.size w1 w2 := (Below.refl _ _).grown hgrow (Nat.le_refl _) (fun k e => by cases e); have HO := hid (made_box hown); clear hown hgrow))
  have HO1 : Hid (Bx w2 w1.heap.size ((wdAt gs R.reverse 0).map (Value.int .i64))) := by
    have h : Bx w2 w1.heap.size (madeCells #[Value.int .i64 0] (ts.length * 1)).toList := HO.out
    rw [toList_madeCells_one, Nat.mul_one] at h
    rw [Hid, wdAt, rep_mapI, HGL.out]; exact h
  clear HO
  have FI := hid F1.out.in
  go_loopw [5, 6] (fun v j wr => ∃ (i t : Nat) (z : Int), i + t = R.length ∧ j = .int .i64 ((i : Int) - 1) ∧ v = .int .i64 z ∧ z = maxL (wdAt gs R.reverse t) ∧ Hid (Bx wr w1.heap.size ((wdAt gs R.reverse t).map (Value.int .i64))) ∧ Below w1.heap.size w1 wr) (fun _ j _ => (intOf j + 1).toNat)
  case atStart => exact ⟨R.length, 0, 0, rfl, rfl, rfl, by rw [wdAt, maxL_zero], HO1, hB2⟩
  case round =>
    clear HO1 hB2
    obtain ⟨i, t, z, hit, rfl, rfl, hz, hO, hB⟩ := hrel
    have hBw : Below w.heap.size w wr := hB1.trans (hB.mono hB1.size)
    have hbx := hO.out.size
    cases i with
    | zero =>
      obtain rfl : t = R.length := by omega
      have HZW : Hid (z = widP gs) := by rw [Hid, HW.out, hz]
      clear hz
      go_wp2
      go_ret
      exact ⟨ret_int HZW.out, hBw⟩
    | succ i =>
      have hlt : t < R.length := by omega
      have htr : t < R.reverse.length := by rw [List.length_reverse]; exact hlt
      obtain ⟨k, hk, ek⟩ := HRO.out.rng _ (el_mem htr)
      have ek2 := ek
      rw [el_reverse hlt, show R.length - 1 - t = i from by omega] at ek2
      have HMX := hid (wdAt_max HE.out HRO.out htr ek)
      have HSC : Hid (wdAt gs R.reverse (t + 1) = (wdAt gs R.reverse t).set k (wNew gs (wdAt gs R.reverse t) k)) := by rw [Hid, wdAt, ek, Int.toNat_natCast]
      have HNB := hid (wNew_bnd HE.out (wdAt_len gs R.reverse t) (wdAt_big HE.out HRO.out.rng HRO.out.len (t := t) (by rw [List.length_reverse]; omega)) (by omega) hk)
      have HBG := hid (wdAt_big HE.out HRO.out.rng HRO.out.len (t := t) (by rw [List.length_reverse]; omega))
      have hWl := wdAt_len gs R.reverse t
      obtain ⟨b0, off0, rfl, hb0, hc0⟩ := ints_at FI.out (k := i) (by omega)
      have cr := (hB.cell (p := ⟨b0, off0 + i, none⟩) hb0).trans (hc0 i (by omega))
      rw [ek2] at cr
      clear ek ek2 hc0
      obtain ⟨wd, hwd⟩ : ∃ wd, wd = wdAt gs R.reverse t := ⟨_, rfl⟩
      rw [← hwd] at HMX HSC HNB HBG hWl hO hz
      have HZ := hid hz
      clear hwd hz
      have hkt : k < ts.length := by rw [← hgl]; exact hk
      obtain ⟨b, off, nxo, nxc, rfl, hb, c6, hI, c1, c2, c3⟩ := hnode.out k hkt
      have d6 := (hBw.cell (p := ⟨b, off + k * 6 + 5, none⟩) hb).trans c6
      have d1 := (hBw.cell (p := ⟨b, off + k * 6 + 1, none⟩) hb).trans c1
      have d2 := (hBw.cell (p := ⟨b, off + k * 6 + 2, none⟩) hb).trans c2
      have d3 := (hBw.cell (p := ⟨b, off + k * 6 + 3, none⟩) hb).trans c3
      have hrg := HE.out.rng k hk
      have hfew := HE.out.few k hk
      have hwn : wNew gs wd k = factI (el gs k).2.1 (el gs k).2.2.1 (el gs k).2.2.2.1 * (if (nxP gs k).length = 0 then 1 else sumW wd (nxP gs k)) := rfl
      obtain ⟨nx, hnx⟩ : ∃ nx, nx = nxP gs k := ⟨_, rfl⟩
      rw [← hnx] at d6 hI hrg hfew hwn
      generalize (el gs k).2.1 = kd at d1 hwn
      generalize (el gs k).2.2.1 = sa at d2 hwn
      generalize (el gs k).2.2.2.1 = sb at d3 hwn
      obtain ⟨v, hv⟩ : ∃ v, v = wNew gs wd k := ⟨_, rfl⟩
      rw [← hv] at HMX HSC HNB hwn
      have HWN := hid hwn
      have HI := hid (hI.later hBw)
      have HRG := hid hrg
      have hki : (k : Int) < (ts.length : Int) := by omega
      have hii : (i : Int) < (R.length : Int) := by omega
      have e1 : (((i + 1 : Nat) : Int) - 1) = (i : Int) := by omega
      have hv0 := HNB.out
      rw [e1]
      clear hnx c6 c1 c2 c3 hI hrg hwn hv e1
      go_wp2
      go_loopw [8, 33] (fun u j wr2 => ∃ (m : Nat) (s : Int), j = .int .i64 (m : Int) ∧ u = .int .i64 s ∧ m ≤ nx.length ∧ s = sumW wd (nx.take m) ∧ wr2 = wr) (fun _ j _ => nx.length - (intOf j).toNat)
      case atStart => exact ⟨0, 0, rfl, rfl, Nat.zero_le _, by rw [List.take_zero, sumW_nil], rfl⟩
      case round =>
        rename_i wr3
        obtain ⟨m, s, rfl, rfl, hm, hs, rfl⟩ := hrel
        have hsb := sumW_bnd HBG.out (by omega) (nx.take m) (fun x hx => by rw [hWl]; exact HRG.out x (List.mem_of_mem_take hx))
        rw [← hs] at hsb
        have hlm : (nx.take m).length = m := by simp; omega
        rw [hlm] at hsb
        by_cases hmk : m < nx.length
        · have HSS := hid (sumW_succ (wd := wd) hmk)
          obtain ⟨nb, noff, rfl, hnb, hnc⟩ := ints_at HI.out hmk
          have cm := hnc m hmk
          obtain ⟨j, hj, hx⟩ := HRG.out (el nx m) (el_mem hmk)
          rw [hx] at cm HSS
          rw [Int.toNat_natCast] at HSS
          have hji : (j : Int) < (ts.length : Int) := by omega
          have cj := hO.out.c j (map_elI (by omega))
          have hjb := HBG.out j (by omega)
          generalize el wd j = y at cj HSS hjb
          have hmi : (m : Int) < (nx.length : Int) := by omega
          have hs2 : s + y = sumW wd (nx.take (m + 1)) := by rw [HSS.out, hs]
          have HS2 := hid hs2
          clear hx hnc hs2 hs hlm
          go_wp2
          go_roundw
          case rel => exact ⟨m + 1, s + y, by go_num, rfl, by omega, HS2.out, trivial⟩
          case measure => simp [intOf]; omega
        · obtain rfl : m = nx.length := by omega
          rw [List.take_length] at hs
          have HS := hid hs
          clear hs hlm hmk
          have hfr := factI_rng kd sa sb
          obtain ⟨f, hf⟩ : ∃ f, f = factI kd sa sb := ⟨_, rfl⟩
          rw [← hf] at hfr HWN
          have HF := hid hf
          clear hf
          have ck := hO.out.c k (map_elI (by omega))
          have fk := hO.out.f k (map_elI (by omega))
          by_cases h0 : nx.length = 0
          · have hvf : v = f := by rw [HWN.out, if_pos h0, Int.mul_one]
            subst hvf
            clear HWN
            by_cases hvz : z < v
            · have hvz' : decide (z < v) = true := by simpa using hvz
              have HMM : Hid (v = maxL (wdAt gs R.reverse (t + 1))) := by rw [Hid, HMX.out, ← HZ.out]; omega
              clear hvz
              go_wp2_with (go_at_call 23; refine (specFact_is kd sa sb _ v HF.out.symm).mono ?_; rintro e w5 ⟨rfl, hb5⟩; have hB5 : Below w1.heap.size w1 w5 := hB.trans (hb5.mono hB.size); have O5 := hid (hO.out.later hb5); have ck5 := (hO.out.later hb5).c k (map_elI (by omega)); have fk5 := (hO.out.later hb5).f k (map_elI (by omega)); have OS : Hid (Bx (w5.setCell ⟨w1.heap.size, k, none⟩ (.int .i64 (v))) w1.heap.size ((wdAt gs R.reverse (t + 1)).map (Value.int .i64))) := (by rw [Hid, HSC.out, map_setI]; exact (hO.out.later hb5).set k (.int .i64 (v))); have BS := hB5.setCell (p := ⟨w1.heap.size, k, none⟩) (Nat.le_refl _) (.int .i64 (v)); clear hb5)
              go_roundw
              case rel => exact ⟨i, t + 1, v, by omega, rfl, rfl, HMM.out, OS, BS⟩
              case measure => simp [intOf]
            · have hvz' : decide (z < v) = false := by simpa using hvz
              have HMM : Hid (z = maxL (wdAt gs R.reverse (t + 1))) := by rw [Hid, HMX.out, ← HZ.out]; omega
              clear hvz
              go_wp2_with (go_at_call 23; refine (specFact_is kd sa sb _ v HF.out.symm).mono ?_; rintro e w5 ⟨rfl, hb5⟩; have hB5 : Below w1.heap.size w1 w5 := hB.trans (hb5.mono hB.size); have O5 := hid (hO.out.later hb5); have ck5 := (hO.out.later hb5).c k (map_elI (by omega)); have fk5 := (hO.out.later hb5).f k (map_elI (by omega)); have OS : Hid (Bx (w5.setCell ⟨w1.heap.size, k, none⟩ (.int .i64 (v))) w1.heap.size ((wdAt gs R.reverse (t + 1)).map (Value.int .i64))) := (by rw [Hid, HSC.out, map_setI]; exact (hO.out.later hb5).set k (.int .i64 (v))); have BS := hB5.setCell (p := ⟨w1.heap.size, k, none⟩) (Nat.le_refl _) (.int .i64 (v)); clear hb5)
              go_roundw
              case rel => exact ⟨i, t + 1, z, by omega, rfl, rfl, HMM.out, OS, BS⟩
              case measure => simp [intOf]
          · have hvf : v = f * s := by rw [HWN.out, if_neg h0, HS.out]
            subst hvf
            clear HWN
            by_cases hvz : z < f * s
            · have hvz' : decide (z < f * s) = true := by simpa using hvz
              have HMM : Hid (f * s = maxL (wdAt gs R.reverse (t + 1))) := by rw [Hid, HMX.out, ← HZ.out]; omega
              clear hvz
              go_wp2_with (go_at_call 23; refine (specFact_is kd sa sb _ f HF.out.symm).mono ?_; rintro e w5 ⟨rfl, hb5⟩; have hB5 : Below w1.heap.size w1 w5 := hB.trans (hb5.mono hB.size); have O5 := hid (hO.out.later hb5); have ck5 := (hO.out.later hb5).c k (map_elI (by omega)); have fk5 := (hO.out.later hb5).f k (map_elI (by omega)); have OS : Hid (Bx (w5.setCell ⟨w1.heap.size, k, none⟩ (.int .i64 (f * s))) w1.heap.size ((wdAt gs R.reverse (t + 1)).map (Value.int .i64))) := (by rw [Hid, HSC.out, map_setI]; exact (hO.out.later hb5).set k (.int .i64 (f * s))); have BS := hB5.setCell (p := ⟨w1.heap.size, k, none⟩) (Nat.le_refl _) (.int .i64 (f * s)); clear hb5)
              go_roundw
              case rel => exact ⟨i, t + 1, f * s, by omega, rfl, rfl, HMM.out, OS, BS⟩
              case measure => simp [intOf]
            · have hvz' : decide (z < f * s) = false := by simpa using hvz
              have HMM : Hid (z = maxL (wdAt gs R.reverse (t + 1))) := by rw [Hid, HMX.out, ← HZ.out]; omega
              clear hvz
              go_wp2_with (go_at_call 23; refine (specFact_is kd sa sb _ f HF.out.symm).mono ?_; rintro e w5 ⟨rfl, hb5⟩; have hB5 : Below w1.heap.size w1 w5 := hB.trans (hb5.mono hB.size); have O5 := hid (hO.out.later hb5); have ck5 := (hO.out.later hb5).c k (map_elI (by omega)); have fk5 := (hO.out.later hb5).f k (map_elI (by omega)); have OS : Hid (Bx (w5.setCell ⟨w1.heap.size, k, none⟩ (.int .i64 (f * s))) w1.heap.size ((wdAt gs R.reverse (t + 1)).map (Value.int .i64))) := (by rw [Hid, HSC.out, map_setI]; exact (hO.out.later hb5).set k (.int .i64 (f * s))); have BS := hB5.setCell (p := ⟨w1.heap.size, k, none⟩) (Nat.le_refl _) (.int .i64 (f * s)); clear hb5)
              go_roundw
              case rel => exact ⟨i, t + 1, z, by omega, rfl, rfl, HMM.out, OS, BS⟩
              case measure => simp [intOf]
end Go.Proofs.YteamcpcjooglaaaDoor
