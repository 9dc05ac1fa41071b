/- The widest of a graph, plainly; the specification. No conditions but those written. Meanings, plainly: sums, orders, what a node lets through. No conditions but those written. Meanings, plainly: what a value means, and how wide it may be. No conditions but those written. Meanings, plainly: node by node along an order. No conditions but those written. Rows of emits: the small functions over them. No conditions but those written. What a node lets through, and what a value means: the specification's. No conditions but those written. What a value means, as the specification says it: l11Mean. No conditions but those written. -/
import Derived.Test.YtebnapgcobcilaaGreatDoorPCkOd
import Derived.Test.YtebnapgcobcilaaGreatDoorPShSl
import Derived.Test.YtebnapgcobcilaaGreatDoorPGenSg
import Derived.Test.YtebnapgcobcilaaGreatDoorPSmTa
import Derived.Test.YtebnapgcobcilaaGreatDoorPOrTr3
namespace Go.Proofs.YtebnapgcobcilaaGreatDoor
section
open Go.RowKit

theorem factI_rng (k a b : Int) : 0 ≤ factI k a b ∧ factI k a b ≤ 3 := by
  unfold factI
  split
  · next h =>
    split
    · next h3 => subst h3; simp [goodSt] at h; omega
    · omega
  · omega
/-- What comes of the nodes that one leads to. -/
def sumW (wd nx : List Int) : Int := (nx.map fun x => el wd x.toNat).sum
theorem sumW_nil (wd : List Int) : sumW wd [] = 0 := rfl
theorem sumW_succ {wd nx : List Int} {m : Nat} (hm : m < nx.length) : sumW wd (nx.take (m + 1)) = sumW wd (nx.take m) + el wd (el nx m).toNat := by rw [sumW, take_succ_el hm]; simp [sumW]
/-- What comes of a node. -/
def wNew (gs : List PNode) (wd : List Int) (k : Nat) : Int := factI (el gs k).2.1 (el gs k).2.2.1 (el gs k).2.2.2.1 * (if (nxP gs k).length = 0 then 1 else sumW wd (nxP gs k))
/-- The first t of a row of nodes are counted. -/
def wdAt (gs : List PNode) (ro : List Int) : Nat → List Int
  | 0 => List.replicate gs.length 0
  | t + 1 => (wdAt gs ro t).set (el ro t).toNat (wNew gs (wdAt gs ro t) (el ro t).toNat)
theorem wdAt_len (gs : List PNode) (ro : List Int) : ∀ t, (wdAt gs ro t).length = gs.length
  | 0 => by simp [wdAt]
  | t + 1 => by simp [wdAt, wdAt_len gs ro t]
/-- The greatest of a row of numbers, 0 at least. -/
def maxL : List Int → Int
  | [] => 0
  | x :: r => max x (maxL r)
theorem maxL_nn : ∀ l, 0 ≤ maxL l
  | [] => Int.le_refl _
  | x :: r => by have := maxL_nn r; simp only [maxL]; omega
theorem maxL_set : ∀ (l : List Int) (k : Nat) (v : Int), k < l.length → el l k = 0 → 0 ≤ v → maxL (l.set k v) = max (maxL l) v
  | [], k, v, hk, _, _ => by simp at hk
  | x :: r, 0, v, _, h0, hv => by
    have hx : x = 0 := by simpa [el] using h0
    have := maxL_nn r
    simp only [List.set_cons_zero, maxL, hx]; omega
  | x :: r, k + 1, v, hk, h0, hv => by
    have ih := maxL_set r k v (by simpa using hk) (by rw [el_cons] at h0; exact h0) hv
    simp only [List.set_cons_succ, maxL, ih]; omega
theorem maxL_snoc : ∀ (l : List Int) (x : Int), 0 ≤ x → maxL (l ++ [x]) = max (maxL l) x
  | [], x, hx => by simp only [List.nil_append, maxL]; omega
  | y :: r, x, hx => by simp only [List.cons_append, maxL, maxL_snoc r x hx]; omega
theorem maxL_zero (n : Nat) : maxL (List.replicate n 0) = 0 := by
  induction n with
  | zero => rfl
  | succ n ih => simp only [List.replicate_succ, maxL, ih]; rfl
/-- Each of its numbers lies within these bounds. -/
def Bnd (B : Int) (l : List Int) : Prop := ∀ j, j < l.length → 0 ≤ el l j ∧ el l j ≤ B
theorem sumW_bnd {wd : List Int} {B : Int} (hb : Bnd B wd) (hB : 0 ≤ B) : ∀ nx : List Int, (∀ x ∈ nx, ∃ j : Nat, j < wd.length ∧ x = (j : Int)) → 0 ≤ sumW wd nx ∧ sumW wd nx ≤ B * (nx.length : Int)
  | [], _ => by simp [sumW]
  | x :: r, h => by
    have ih := sumW_bnd hb hB r fun y hy => h y (by simp [hy])
    obtain ⟨j, hj, rfl⟩ := h x (by simp)
    have h1 := hb j hj
    have e : sumW wd ((j : Int) :: r) = el wd j + sumW wd r := by simp [sumW]
    rw [e, List.length_cons]
    push_cast
    rw [Int.mul_add, Int.mul_one]
    omega
/-- A row of nodes, none twice. -/
structure Ro (gs : List PNode) (ro : List Int) : Prop where
  rng : ∀ x ∈ ro, ∃ j : Nat, j < gs.length ∧ x = (j : Int)
  one : ro.Nodup
  len : ro.length ≤ 10
theorem mul_le3 {f z B : Int} (h0 : 0 ≤ f) (h3 : f ≤ 3) (hz : 0 ≤ z) (hB : z ≤ B) : 0 ≤ f * z ∧ f * z ≤ 3 * B := by
  rcases (show f = 0 ∨ f = 1 ∨ f = 2 ∨ f = 3 from by omega) with rfl | rfl | rfl | rfl <;> omega
theorem wNew_bnd {gs : List PNode} (hE : EdgesIn gs) {wd : List Int} {B : Int} (hl : wd.length = gs.length) (hb : Bnd B wd) (hB : 1 ≤ B) {k : Nat} (hk : k < gs.length) : 0 ≤ wNew gs wd k ∧ wNew gs wd k ≤ 30 * B := by
  have hf := factI_rng (el gs k).2.1 (el gs k).2.2.1 (el gs k).2.2.2.1
  have hs := sumW_bnd hb (by omega) (nxP gs k) fun x hx => by rw [hl]; exact hE.rng k hk x hx
  have hn := hE.few k hk
  have hz : 0 ≤ (if (nxP gs k).length = 0 then 1 else sumW wd (nxP gs k)) ∧ (if (nxP gs k).length = 0 then 1 else sumW wd (nxP gs k)) ≤ 10 * B := by
    split
    · omega
    · refine ⟨hs.1, Int.le_trans hs.2 ?_⟩
      rw [Int.mul_comm 10 B]
      exact Int.mul_le_mul_of_nonneg_left (by omega) (by omega)
  have := mul_le3 hf.1 hf.2 hz.1 hz.2
  unfold wNew
  omega
theorem wdAt_bnd {gs : List PNode} (hE : EdgesIn gs) {ro : List Int} (hr : ∀ x ∈ ro, ∃ j : Nat, j < gs.length ∧ x = (j : Int)) : ∀ t, t ≤ ro.length → Bnd (30 ^ t) (wdAt gs ro t)
  | 0, _ => fun j hj => by simp [wdAt] at hj; simp [wdAt, el, hj]
  | t + 1, ht => fun j hj => by
    have ih := wdAt_bnd hE hr t (by omega)
    have hp : (1 : Int) ≤ 30 ^ t := by have : 0 < (30 : Int) ^ t := Int.pow_pos (by omega); omega
    obtain ⟨k, hk, ek⟩ := hr _ (el_mem (show t < ro.length by omega))
    have hn := wNew_bnd hE (wdAt_len gs ro t) ih hp hk
    have hj' : j < gs.length := by rw [wdAt_len] at hj; exact hj
    have e30 : (30 : Int) ^ (t + 1) = 30 * 30 ^ t := by rw [Int.pow_succ]; omega
    rw [wdAt, ek, Int.toNat_natCast, el_setI (by rw [wdAt_len]; exact hk), e30]
    split
    · exact hn
    · have := ih j (by rw [wdAt_len]; exact hj'); omega
theorem pow30_le : ∀ t, t ≤ 10 → (30 : Int) ^ t ≤ 590490000000000 := fun t ht => by
  rcases (show t = 0 ∨ t = 1 ∨ t = 2 ∨ t = 3 ∨ t = 4 ∨ t = 5 ∨ t = 6 ∨ t = 7 ∨ t = 8 ∨ t = 9 ∨ t = 10 from by omega) with rfl | rfl | rfl | rfl | rfl | rfl | rfl | rfl | rfl | rfl | rfl <;> decide
/-- Bounds that serve every step. -/
theorem wdAt_big {gs : List PNode} (hE : EdgesIn gs) {ro : List Int} (hr : ∀ x ∈ ro, ∃ j : Nat, j < gs.length ∧ x = (j : Int)) (hl : ro.length ≤ 10) {t : Nat} (ht : t ≤ ro.length) : Bnd 590490000000000 (wdAt gs ro t) := fun j hj => by
  have h1 := wdAt_bnd hE hr t ht j hj
  have h2 := pow30_le t (by omega)
  omega
/-- Not yet counted: nothing. -/
theorem wdAt_zero {gs : List PNode} {ro : List Int} (hr : Ro gs ro) {k : Nat} (hk : k < gs.length) : ∀ t, t ≤ ro.length → (k : Int) ∉ ro.take t → el (wdAt gs ro t) k = 0
  | 0, _, _ => by simp [wdAt, el, hk]
  | t + 1, ht, hn => by
    rw [take_succ_el (by omega)] at hn
    obtain ⟨j, hj, ej⟩ := hr.rng _ (el_mem (show t < ro.length by omega))
    have hne : k ≠ j := fun e => hn (by rw [ej, e]; simp)
    rw [wdAt, ej, Int.toNat_natCast, el_setI (by rw [wdAt_len]; exact hj), if_neg hne]
    exact wdAt_zero hr hk t (by omega) fun h => hn (by simp [h])
theorem wdAt_max {gs : List PNode} (hE : EdgesIn gs) {ro : List Int} (hr : Ro gs ro) {t k : Nat} (ht : t < ro.length) (ek : el ro t = (k : Int)) : maxL (wdAt gs ro (t + 1)) = max (maxL (wdAt gs ro t)) (wNew gs (wdAt gs ro t) k) := by
  obtain ⟨j, hj, e⟩ := hr.rng _ (el_mem ht)
  rw [ek] at e
  obtain rfl : k = j := by omega
  have hb := wNew_bnd hE (wdAt_len gs ro t) (wdAt_bnd hE hr.rng t (by omega)) (by have : 0 < (30 : Int) ^ t := Int.pow_pos (by omega); omega) hj
  have h0 := wdAt_zero hr hj t (by omega) fun h => nodup_take ht hr.one (by rw [ek]; exact h)
  rw [wdAt, ek, Int.toNat_natCast]
  exact maxL_set _ _ _ (by rw [wdAt_len]; exact hj) h0 hb.1
/-- An order has each node once. -/
theorem behindP_perm (gs : List PNode) : ∀ (n : Nat) (o l : List Int), ((behindP gs n o l).1 ++ (behindP gs n o l).2).Perm (o ++ l)
  | 0, o, l => List.Perm.refl _
  | n + 1, o, l => by
    rw [behindP]
    cases hp : l.findIdx? (fun b => !ledP gs l b) with
    | none => exact List.Perm.refl _
    | some k =>
      have hk : k < l.length := by rw [List.findIdx?_eq_some_iff_getElem] at hp; exact hp.1
      refine (behindP_perm gs n _ _).trans ?_
      have hs := split_at hk
      rw [List.append_assoc]
      refine List.Perm.append_left o ?_
      have h := (List.perm_middle (a := el l k) (l₁ := l.take k) (l₂ := l.drop (k + 1))).symm
      rw [← hs] at h
      exact h
theorem orderP_ro {gs : List PNode} (h10 : gs.length ≤ 10) : Ro gs (orderP gs).reverse := by
  have hp := behindP_perm gs gs.length [] (numsI gs.length)
  rw [List.nil_append] at hp
  have hnd : (numsI gs.length).Nodup := inc_nodup (numsI_inc _)
  have hnd2 := (hp.nodup_iff.2 hnd)
  rw [List.nodup_append] at hnd2
  refine ⟨fun x hx => ?_, by rw [List.Nodup, List.pairwise_reverse]; exact List.Pairwise.imp Ne.symm hnd2.1, ?_⟩
  · exact numsI_mem (hp.subset (List.mem_append_left _ (List.mem_reverse.1 hx)))
  · rw [List.length_reverse]
    have h2 := behindP_len gs gs.length [] (numsI gs.length)
    rw [orderP]; simp at h2; omega
theorem el_reverse {l : List Int} {t : Nat} (ht : t < l.length) : el l.reverse t = el l (l.length - 1 - t) := by
  rw [el_at (by simpa using ht), el_at (by omega), List.getElem_reverse]
/-- The counts behind a row of nodes. -/
def wdOf (gs : List PNode) (ro : List Int) : List Int := ro.foldl (fun wd y => wd.set y.toNat (wNew gs wd y.toNat)) (List.replicate gs.length 0)
theorem wdOf_snoc (gs : List PNode) (ro : List Int) (y : Int) : wdOf gs (ro ++ [y]) = (wdOf gs ro).set y.toNat (wNew gs (wdOf gs ro) y.toNat) := by rw [wdOf, List.foldl_append]; rfl
theorem wdOf_at (gs : List PNode) (ro : List Int) : ∀ t, t ≤ ro.length → wdAt gs ro t = wdOf gs (ro.take t)
  | 0, _ => by rw [List.take_zero]; rfl
  | t + 1, ht => by rw [take_succ_el (by omega), wdOf_snoc, wdAt, wdOf_at gs ro t (by omega)]
theorem wdOf_all (gs : List PNode) (ro : List Int) : wdAt gs ro ro.length = wdOf gs ro := by rw [wdOf_at gs ro _ (Nat.le_refl _), List.take_length]
/-- What WidestOf answers. -/
def widP (gs : List PNode) : Int := maxL (wdAt gs (orderP gs).reverse (orderP gs).length)
def widR (gs : List PNode) : Int × Bool := if codeG gs = 0 then (widP gs, true) else (0, false)
set_option maxRecDepth 10000 in
set_option maxHeartbeats 16000000 in
theorem l11Widest_is (ao : Option Addr) (cap : Nat) (ts : List LNode) (w : World) (hE : EdgesIn (ts.map valNode)) (hR : ¬ (orderP (ts.map valNode)).length < (ts.map valNode).length) (hz : DIn dNode w.heap.size w ao ts) :
    Calls Tryz.prog 28 #[.slice ao ts.length cap] w fun e w' => e = .returned (.int .i64 (widP (ts.map valNode))) ∧ Below w.heap.size w w' := by
  obtain ⟨i0, hi, hz0, hz1, hz2⟩ := info_parts Tryz.info3
  have h10 : ts.length ≤ 10 := by have := hE.many; simpa using this
  have hcon := l11Order_is ao cap ts w hE hR hz
  have HRO := hid (orderP_ro (gs := ts.map valNode) (by rw [val_len]; exact h10))
  have HE := hid hE
  have hnode : Hid (∀ k, k < ts.length → ∃ b off nxo nxc, ao = some ⟨b, off, none⟩ ∧ b < w.heap.size ∧ w.cell? ⟨b, off + k * 6 + 5, none⟩ = some (.slice nxo (nxP (ts.map valNode) k).length nxc) ∧ kI.In w.heap.size w nxo (nxP (ts.map valNode) k) ∧ w.cell? ⟨b, off + k * 6 + 1, none⟩ = some (.int .i64 (el (ts.map valNode) k).2.1) ∧ w.cell? ⟨b, off + k * 6 + 2, none⟩ = some (.int .i64 (el (ts.map valNode) k).2.2.1) ∧ w.cell? ⟨b, off + k * 6 + 3, none⟩ = some (.int .i64 (el (ts.map valNode) k).2.2.2.1)) := fun k hk => by
    obtain ⟨b, off, e, hb, hc⟩ := hNode_at hz.1 hk
    have d := hc k hk
    have hin := hz.2 k hk
    have hev : nxP (ts.map valNode) k = (el ts k).2.2.2.2.2.2.2 := by rw [nxP, el_val hk]; rfl
    rw [hev, el_val hk]
    exact ⟨b, off, _, _, e, hb, d.2.2.2.2.2, hin, d.2.1, d.2.2.1, d.2.2.2.1⟩
  have HW : Hid (widP (ts.map valNode) = maxL (wdAt (ts.map valNode) (orderP (ts.map valNode)).reverse (orderP (ts.map valNode)).length)) := rfl
  obtain ⟨R, hRR⟩ : ∃ R, orderP (ts.map valNode) = R := ⟨_, rfl⟩
  rw [hRR] at hcon HRO HW
  have hRl : R.length ≤ 10 := by have := HRO.out.len; simpa using this
  obtain ⟨gs, hgs⟩ : ∃ gs, gs = ts.map valNode := ⟨_, rfl⟩
  have hgl : gs.length = ts.length := by rw [hgs, val_len]
  rw [← hgs] at HRO HE hnode HW ⊢
  have HGL := hid hgl
  clear hz hE hR hRR hgs
  go_enter Tryz.func28, Tryz.ntmps28
  go_wp2_with (first
    | (go_at_call 19; refine hcon.mono ?_; rintro e w1 ⟨⟨ro, rc, rfl, hF1⟩, hB1⟩; have F1 := hid hF1; clear hF1)
    | (at_make; refine wpList_make_full _ rfl _ _ 26 rfl w1.heap.size 3 i0 (.int .i64 0) 1 Tryz.underlying26 hi hz0 hz1 .i64 .i64 _ _ ts.length rfl rfl rfl rfl (by rw [hz2]; omega) (by unfold maxLen; omega) (Nat.le_refl _) ?_; intro w2 hown hgrow; have hB2 : Below w1.heap.size w1 w2 := (Below.refl _ _).grown hgrow (Nat.le_refl _) (fun k e => by cases e); have HO := hid (made_box hown); clear hown hgrow))
  have HO1 : Hid (Bx w2 w1.heap.size ((wdAt gs R.reverse 0).map (Value.int .i64))) := by
    have h : Bx w2 w1.heap.size (madeCells #[Value.int .i64 0] (ts.length * 1)).toList := HO.out
    rw [toList_madeCells_one, Nat.mul_one] at h
    rw [Hid, wdAt, rep_mapI, HGL.out]; exact h
  clear HO
  have FI := hid F1.out.in
  go_loopw [5, 6] (fun v j wr => ∃ (i t : Nat) (z : Int), i + t = R.length ∧ j = .int .i64 ((i : Int) - 1) ∧ v = .int .i64 z ∧ z = maxL (wdAt gs R.reverse t) ∧ Hid (Bx wr w1.heap.size ((wdAt gs R.reverse t).map (Value.int .i64))) ∧ Below w1.heap.size w1 wr) (fun _ j _ => (intOf j + 1).toNat)
  case atStart => exact ⟨R.length, 0, 0, rfl, rfl, rfl, by rw [wdAt, maxL_zero], HO1, hB2⟩
  case round =>
    clear HO1 hB2
    obtain ⟨i, t, z, hit, rfl, rfl, hz, hO, hB⟩ := hrel
    have hBw : Below w.heap.size w wr := hB1.trans (hB.mono hB1.size)
    have hbx := hO.out.size
    cases i with
    | zero =>
      obtain rfl : t = R.length := by omega
      have HZW : Hid (z = widP gs) := by rw [Hid, HW.out, hz]
      clear hz
      go_wp2
      go_ret
      exact ⟨ret_int HZW.out, hBw⟩
    | succ i =>
      have hlt : t < R.length := by omega
      have htr : t < R.reverse.length := by rw [List.length_reverse]; exact hlt
      obtain ⟨k, hk, ek⟩ := HRO.out.rng _ (el_mem htr)
      have ek2 := ek
      rw [el_reverse hlt, show R.length - 1 - t = i from by omega] at ek2
      have HMX := hid (wdAt_max HE.out HRO.out htr ek)
      have HSC : Hid (wdAt gs R.reverse (t + 1) = (wdAt gs R.reverse t).set k (wNew gs (wdAt gs R.reverse t) k)) := by rw [Hid, wdAt, ek, Int.toNat_natCast]
      have HNB := hid (wNew_bnd HE.out (wdAt_len gs R.reverse t) (wdAt_big HE.out HRO.out.rng HRO.out.len (t := t) (by rw [List.length_reverse]; omega)) (by omega) hk)
      have HBG := hid (wdAt_big HE.out HRO.out.rng HRO.out.len (t := t) (by rw [List.length_reverse]; omega))
      have hWl := wdAt_len gs R.reverse t
      obtain ⟨b0, off0, rfl, hb0, hc0⟩ := ints_at FI.out (k := i) (by omega)
      have cr := (hB.cell (p := ⟨b0, off0 + i, none⟩) hb0).trans (hc0 i (by omega))
      rw [ek2] at cr
      clear ek ek2 hc0
      obtain ⟨wd, hwd⟩ : ∃ wd, wd = wdAt gs R.reverse t := ⟨_, rfl⟩
      rw [← hwd] at HMX HSC HNB HBG hWl hO hz
      have HZ := hid hz
      clear hwd hz
      have hkt : k < ts.length := by rw [← hgl]; exact hk
      obtain ⟨b, off, nxo, nxc, rfl, hb, c6, hI, c1, c2, c3⟩ := hnode.out k hkt
      have d6 := (hBw.cell (p := ⟨b, off + k * 6 + 5, none⟩) hb).trans c6
      have d1 := (hBw.cell (p := ⟨b, off + k * 6 + 1, none⟩) hb).trans c1
      have d2 := (hBw.cell (p := ⟨b, off + k * 6 + 2, none⟩) hb).trans c2
      have d3 := (hBw.cell (p := ⟨b, off + k * 6 + 3, none⟩) hb).trans c3
      have hrg := HE.out.rng k hk
      have hfew := HE.out.few k hk
      have hwn : wNew gs wd k = factI (el gs k).2.1 (el gs k).2.2.1 (el gs k).2.2.2.1 * (if (nxP gs k).length = 0 then 1 else sumW wd (nxP gs k)) := rfl
      obtain ⟨nx, hnx⟩ : ∃ nx, nx = nxP gs k := ⟨_, rfl⟩
      rw [← hnx] at d6 hI hrg hfew hwn
      generalize (el gs k).2.1 = kd at d1 hwn
      generalize (el gs k).2.2.1 = sa at d2 hwn
      generalize (el gs k).2.2.2.1 = sb at d3 hwn
      obtain ⟨v, hv⟩ : ∃ v, v = wNew gs wd k := ⟨_, rfl⟩
      rw [← hv] at HMX HSC HNB hwn
      have HWN := hid hwn
      have HI := hid (hI.later hBw)
      have HRG := hid hrg
      have hki : (k : Int) < (ts.length : Int) := by omega
      have hii : (i : Int) < (R.length : Int) := by omega
      have e1 : (((i + 1 : Nat) : Int) - 1) = (i : Int) := by omega
      have hv0 := HNB.out
      rw [e1]
      clear hnx c6 c1 c2 c3 hI hrg hwn hv e1
      go_wp2
      go_loopw [8, 33] (fun u j wr2 => ∃ (m : Nat) (s : Int), j = .int .i64 (m : Int) ∧ u = .int .i64 s ∧ m ≤ nx.length ∧ s = sumW wd (nx.take m) ∧ wr2 = wr) (fun _ j _ => nx.length - (intOf j).toNat)
      case atStart => exact ⟨0, 0, rfl, rfl, Nat.zero_le _, by rw [List.take_zero, sumW_nil], rfl⟩
      case round =>
        rename_i wr3
        obtain ⟨m, s, rfl, rfl, hm, hs, rfl⟩ := hrel
        have hsb := sumW_bnd HBG.out (by omega) (nx.take m) (fun x hx => by rw [hWl]; exact HRG.out x (List.mem_of_mem_take hx))
        rw [← hs] at hsb
        have hlm : (nx.take m).length = m := by simp; omega
        rw [hlm] at hsb
        by_cases hmk : m < nx.length
        · have HSS := hid (sumW_succ (wd := wd) hmk)
          obtain ⟨nb, noff, rfl, hnb, hnc⟩ := ints_at HI.out hmk
          have cm := hnc m hmk
          obtain ⟨j, hj, hx⟩ := HRG.out (el nx m) (el_mem hmk)
          rw [hx] at cm HSS
          rw [Int.toNat_natCast] at HSS
          have hji : (j : Int) < (ts.length : Int) := by omega
          have cj := hO.out.c j (map_elI (by omega))
          have hjb := HBG.out j (by omega)
          generalize el wd j = y at cj HSS hjb
          have hmi : (m : Int) < (nx.length : Int) := by omega
          have hs2 : s + y = sumW wd (nx.take (m + 1)) := by rw [HSS.out, hs]
          have HS2 := hid hs2
          clear hx hnc hs2 hs hlm
          go_wp2
          go_roundw
          case rel => exact ⟨m + 1, s + y, by go_num, rfl, by omega, HS2.out, trivial⟩
          case measure => simp [intOf]; omega
        · obtain rfl : m = nx.length := by omega
          rw [List.take_length] at hs
          have HS := hid hs
          clear hs hlm hmk
          have hfr := factI_rng kd sa sb
          obtain ⟨f, hf⟩ : ∃ f, f = factI kd sa sb := ⟨_, rfl⟩
          rw [← hf] at hfr HWN
          have HF := hid hf
          clear hf
          have ck := hO.out.c k (map_elI (by omega))
          have fk := hO.out.f k (map_elI (by omega))
          by_cases h0 : nx.length = 0
          · have hvf : v = f := by rw [HWN.out, if_pos h0, Int.mul_one]
            subst hvf
            clear HWN
            by_cases hvz : z < v
            · have hvz' : decide (z < v) = true := by simpa using hvz
              have HMM : Hid (v = maxL (wdAt gs R.reverse (t + 1))) := by rw [Hid, HMX.out, ← HZ.out]; omega
              clear hvz
              go_wp2_with (go_at_call 58; refine (specFact_is kd sa sb _ v HF.out.symm).mono ?_; rintro e w5 ⟨rfl, hb5⟩; have hB5 : Below w1.heap.size w1 w5 := hB.trans (hb5.mono hB.size); have O5 := hid (hO.out.later hb5); have ck5 := (hO.out.later hb5).c k (map_elI (by omega)); have fk5 := (hO.out.later hb5).f k (map_elI (by omega)); have OS : Hid (Bx (w5.setCell ⟨w1.heap.size, k, none⟩ (.int .i64 (v))) w1.heap.size ((wdAt gs R.reverse (t + 1)).map (Value.int .i64))) := (by rw [Hid, HSC.out, map_setI]; exact (hO.out.later hb5).set k (.int .i64 (v))); have BS := hB5.setCell (p := ⟨w1.heap.size, k, none⟩) (Nat.le_refl _) (.int .i64 (v)); clear hb5)
              go_roundw
              case rel => exact ⟨i, t + 1, v, by omega, rfl, rfl, HMM.out, OS, BS⟩
              case measure => simp [intOf]
            · have hvz' : decide (z < v) = false := by simpa using hvz
              have HMM : Hid (z = maxL (wdAt gs R.reverse (t + 1))) := by rw [Hid, HMX.out, ← HZ.out]; omega
              clear hvz
              go_wp2_with (go_at_call 58; refine (specFact_is kd sa sb _ v HF.out.symm).mono ?_; rintro e w5 ⟨rfl, hb5⟩; have hB5 : Below w1.heap.size w1 w5 := hB.trans (hb5.mono hB.size); have O5 := hid (hO.out.later hb5); have ck5 := (hO.out.later hb5).c k (map_elI (by omega)); have fk5 := (hO.out.later hb5).f k (map_elI (by omega)); have OS : Hid (Bx (w5.setCell ⟨w1.heap.size, k, none⟩ (.int .i64 (v))) w1.heap.size ((wdAt gs R.reverse (t + 1)).map (Value.int .i64))) := (by rw [Hid, HSC.out, map_setI]; exact (hO.out.later hb5).set k (.int .i64 (v))); have BS := hB5.setCell (p := ⟨w1.heap.size, k, none⟩) (Nat.le_refl _) (.int .i64 (v)); clear hb5)
              go_roundw
              case rel => exact ⟨i, t + 1, z, by omega, rfl, rfl, HMM.out, OS, BS⟩
              case measure => simp [intOf]
          · have hvf : v = f * s := by rw [HWN.out, if_neg h0, HS.out]
            subst hvf
            clear HWN
            by_cases hvz : z < f * s
            · have hvz' : decide (z < f * s) = true := by simpa using hvz
              have HMM : Hid (f * s = maxL (wdAt gs R.reverse (t + 1))) := by rw [Hid, HMX.out, ← HZ.out]; omega
              clear hvz
              go_wp2_with (go_at_call 58; refine (specFact_is kd sa sb _ f HF.out.symm).mono ?_; rintro e w5 ⟨rfl, hb5⟩; have hB5 : Below w1.heap.size w1 w5 := hB.trans (hb5.mono hB.size); have O5 := hid (hO.out.later hb5); have ck5 := (hO.out.later hb5).c k (map_elI (by omega)); have fk5 := (hO.out.later hb5).f k (map_elI (by omega)); have OS : Hid (Bx (w5.setCell ⟨w1.heap.size, k, none⟩ (.int .i64 (f * s))) w1.heap.size ((wdAt gs R.reverse (t + 1)).map (Value.int .i64))) := (by rw [Hid, HSC.out, map_setI]; exact (hO.out.later hb5).set k (.int .i64 (f * s))); have BS := hB5.setCell (p := ⟨w1.heap.size, k, none⟩) (Nat.le_refl _) (.int .i64 (f * s)); clear hb5)
              go_roundw
              case rel => exact ⟨i, t + 1, f * s, by omega, rfl, rfl, HMM.out, OS, BS⟩
              case measure => simp [intOf]
            · have hvz' : decide (z < f * s) = false := by simpa using hvz
              have HMM : Hid (z = maxL (wdAt gs R.reverse (t + 1))) := by rw [Hid, HMX.out, ← HZ.out]; omega
              clear hvz
              go_wp2_with (go_at_call 58; refine (specFact_is kd sa sb _ f HF.out.symm).mono ?_; rintro e w5 ⟨rfl, hb5⟩; have hB5 : Below w1.heap.size w1 w5 := hB.trans (hb5.mono hB.size); have O5 := hid (hO.out.later hb5); have ck5 := (hO.out.later hb5).c k (map_elI (by omega)); have fk5 := (hO.out.later hb5).f k (map_elI (by omega)); have OS : Hid (Bx (w5.setCell ⟨w1.heap.size, k, none⟩ (.int .i64 (f * s))) w1.heap.size ((wdAt gs R.reverse (t + 1)).map (Value.int .i64))) := (by rw [Hid, HSC.out, map_setI]; exact (hO.out.later hb5).set k (.int .i64 (f * s))); have BS := hB5.setCell (p := ⟨w1.heap.size, k, none⟩) (Nat.le_refl _) (.int .i64 (f * s)); clear hb5)
              go_roundw
              case rel => exact ⟨i, t + 1, z, by omega, rfl, rfl, HMM.out, OS, BS⟩
              case measure => simp [intOf]
end
section
open Go.RowKit

/-- A sum over a list. -/
def sumI {α : Type} (f : α → Int) : List α → Int
  | [] => 0
  | x :: r => f x + sumI f r
section
variable {α β : Type}
theorem sumI_app (f : α → Int) : ∀ l r : List α, sumI f (l ++ r) = sumI f l + sumI f r
  | [], r => by simp [sumI]
  | x :: l, r => by simp only [List.cons_append, sumI, sumI_app f l r]; omega
theorem sumI_one (f : α → Int) (x : α) : sumI f [x] = f x := by simp [sumI]
theorem sumI_congr {f g : α → Int} : ∀ {l : List α}, (∀ x ∈ l, f x = g x) → sumI f l = sumI g l
  | [], _ => rfl
  | x :: r, h => by simp only [sumI]; rw [h x (by simp), sumI_congr (l := r) fun y hy => h y (by simp [hy])]
theorem sumI_le {f g : α → Int} : ∀ {l : List α}, (∀ x ∈ l, f x ≤ g x) → sumI f l ≤ sumI g l
  | [], _ => Int.le_refl _
  | x :: r, h => by have h1 := h x (by simp); have h2 := sumI_le (l := r) fun y hy => h y (by simp [hy]); simp only [sumI]; omega
theorem sumI_neg (f : α → Int) : ∀ l : List α, sumI (fun x => - f x) l = - sumI f l
  | [] => rfl
  | x :: r => by simp only [sumI, sumI_neg f r]; omega
theorem sumI_add (f g : α → Int) : ∀ l : List α, sumI (fun x => f x + g x) l = sumI f l + sumI g l
  | [] => rfl
  | x :: r => by simp only [sumI, sumI_add f g r]; omega
theorem sumI_zero : ∀ l : List α, sumI (fun _ => 0) l = 0
  | [] => rfl
  | x :: r => by simp only [sumI, sumI_zero r]; omega
theorem sumI_map (f : β → Int) (g : α → β) : ∀ l : List α, sumI f (l.map g) = sumI (fun x => f (g x)) l
  | [] => rfl
  | x :: r => by simp only [List.map_cons, sumI, sumI_map f g r]
theorem sumI_flat (f : β → Int) (g : α → List β) : ∀ l : List α, sumI f (l.flatMap g) = sumI (fun x => sumI f (g x)) l
  | [] => rfl
  | x :: r => by simp only [List.flatMap_cons, sumI, sumI_app, sumI_flat f g r]
theorem sumI_swap (f : α → β → Int) : ∀ (l : List α) (r : List β), sumI (fun x => sumI (f x) r) l = sumI (fun y => sumI (fun x => f x y) l) r
  | [], r => by simp only [sumI]; rw [sumI_zero]
  | x :: l, r => by simp only [sumI]; rw [sumI_swap f l r, sumI_add]
theorem sumI_nn {f : α → Int} {l : List α} (h : ∀ x ∈ l, 0 ≤ f x) : 0 ≤ sumI f l := by
  have := sumI_le (f := fun _ => 0) (g := f) h
  rw [sumI_zero] at this; exact this
theorem sumI_ge_len {f : α → Int} : ∀ {l : List α}, (∀ x ∈ l, 1 ≤ f x) → (l.length : Int) ≤ sumI f l
  | [], _ => by simp [sumI]
  | x :: r, h => by have h1 := h x (by simp); have h2 := sumI_ge_len (l := r) fun y hy => h y (by simp [hy]); simp only [sumI, List.length_cons]; omega
theorem sumI_le_len {f : α → Int} {c : Int} : ∀ {l : List α}, (∀ x ∈ l, f x ≤ c) → sumI f l ≤ c * (l.length : Int)
  | [], _ => by simp [sumI]
  | x :: r, h => by
    have h1 := h x (by simp); have h2 := sumI_le_len (c := c) (l := r) fun y hy => h y (by simp [hy])
    simp only [sumI, List.length_cons]; push_cast; rw [Int.mul_add, Int.mul_one]; omega
theorem sumI_mem {f : α → Int} : ∀ {l : List α} {x : α}, x ∈ l → (∀ y ∈ l, 0 ≤ f y) → f x ≤ sumI f l
  | y :: r, x, h, hn => by
    have h2 : 0 ≤ sumI f r := sumI_nn fun z hz => hn z (by simp [hz])
    have h0 := hn y (by simp)
    simp only [sumI]
    rcases List.mem_cons.1 h with rfl | h
    · omega
    · have := sumI_mem h fun z hz => hn z (by simp [hz]); omega
theorem sumI_perm {f : α → Int} {l r : List α} (h : l.Perm r) : sumI f l = sumI f r := by
  induction h with
  | nil => rfl
  | cons x _ ih => simp only [sumI, ih]
  | swap x y l => simp only [sumI]; omega
  | trans _ _ h1 h2 => exact h1.trans h2
theorem sumI_count [BEq α] [LawfulBEq α] (a : α) : ∀ l : List α, (l.count a : Int) = sumI (fun x => if x == a then 1 else 0) l
  | [] => rfl
  | x :: r => by
    rw [List.count_cons, sumI, ← sumI_count a r]
    by_cases h : (x == a) = true
    · simp [h]; omega
    · simp [h]
theorem perm_of_sums [BEq α] [LawfulBEq α] {l r : List α} (h : ∀ f : α → Int, sumI f l = sumI f r) : l.Perm r := by
  rw [List.perm_iff_count]
  intro a
  have := h fun x => if x == a then 1 else 0
  rw [← sumI_count, ← sumI_count] at this
  omega
end
/-- What a node lets through. -/
def outM (gs : List PNode) (k : Nat) (v : Int) : List Int :=
  if (appSt (el gs k).2.1 (el gs k).2.2.1 (el gs k).2.2.2.1 v).2 = true then [v] else (appSt (el gs k).2.1 (el gs k).2.2.1 (el gs k).2.2.2.1 v).1
/-- The nodes' stages are good. -/
def GoodSts (gs : List PNode) : Prop := ∀ k, k < gs.length → goodSt (el gs k).2.1 (el gs k).2.2.1 (el gs k).2.2.2.1 = true
theorem outM_len {gs : List PNode} {k : Nat} (h : goodSt (el gs k).2.1 (el gs k).2.2.1 (el gs k).2.2.2.1 = true) (v : Int) : ((outM gs k v).length : Int) ≤ factI (el gs k).2.1 (el gs k).2.2.1 (el gs k).2.2.2.1 := by
  unfold outM factI
  rw [if_pos h]
  generalize (el gs k).2.1 = kd at *
  generalize (el gs k).2.2.1 = a at *
  generalize (el gs k).2.2.2.1 = b at *
  rcases good_kind h with rfl | rfl | rfl | rfl
  · simp [appSt]
  · rw [appSt2]; simp; split <;> simp
  · have := good3 h
    rw [appSt3]; simp [expI_len]; omega
  · rw [appSt4]; split <;> simp
theorem fact_pos {k a b : Int} (h : goodSt k a b = true) : 1 ≤ factI k a b := by
  unfold factI
  rw [if_pos h]
  split
  · next e => subst e; exact (good3 h).1
  · omega
theorem outM_val {gs : List PNode} {k : Nat} (h : goodSt (el gs k).2.1 (el gs k).2.2.1 (el gs k).2.2.2.1 = true) {v : Int} (hv : valB v = true) : ∀ x ∈ outM gs k v, valB x = true := by
  intro x hx
  unfold outM at hx
  split at hx
  · simp at hx; subst hx; exact hv
  · exact appSt_val h hv x hx
/-- What comes of a value that comes out of a node. -/
def thenW (gs : List PNode) (φ : Nat → Int → Int) (ψ : Int × Int → Int) (k : Nat) (x : Int) : Int :=
  if (nxP gs k).length = 0 then ψ ((k : Int), x) else sumI (fun y => φ y.toNat x) (nxP gs k)
/-- A weight that does not grow along the graph. -/
def Falls (gs : List PNode) (φ : Nat → Int → Int) (ψ : Int × Int → Int) : Prop := ∀ k v, k < gs.length → sumI (thenW gs φ ψ k) (outM gs k v) ≤ φ k v
/-- An order of the nodes: each once, and none leads to one ahead of it. -/
structure Ordd (gs : List PNode) (R : List Int) : Prop where
  perm : R.Perm (numsI gs.length)
  fwd : R.Pairwise fun a b => a ∉ nxP gs b.toNat
  self : ∀ a ∈ R, a ∉ nxP gs a.toNat
theorem behindP_ord (gs : List PNode) : ∀ (n : Nat) (o l : List Int), (o.Pairwise fun a b => a ∉ nxP gs b.toNat) → (∀ a ∈ o, a ∉ nxP gs a.toNat) → (∀ a ∈ o, ∀ b ∈ l, a ∉ nxP gs b.toNat) →
    ((behindP gs n o l).1.Pairwise fun a b => a ∉ nxP gs b.toNat) ∧ ∀ a ∈ (behindP gs n o l).1, a ∉ nxP gs a.toNat
  | 0, o, l, h1, h2, _ => ⟨h1, h2⟩
  | n + 1, o, l, h1, h2, h3 => by
    rw [behindP]
    cases hp : l.findIdx? (fun b => !ledP gs l b) with
    | none => exact ⟨h1, h2⟩
    | some k =>
      rw [List.findIdx?_eq_some_iff_getElem] at hp
      obtain ⟨hk, hb, _⟩ := hp
      have hel : el l k = l[k] := el_at hk
      have hno : ∀ b ∈ l, el l k ∉ nxP gs b.toNat := fun b hb' hm => by
        rw [← hel] at hb
        simp only [ledP, Bool.not_eq_true', List.any_eq_false] at hb
        have := hb b hb'
        simp only [leadsP, hasB, decide_eq_true_eq] at this
        exact this hm
      have hkm : el l k ∈ l := el_mem hk
      refine behindP_ord gs n _ _ ?_ ?_ ?_
      · rw [List.pairwise_append]
        exact ⟨h1, by simp, fun _ ha b hb' => by simp at hb'; subst hb'; exact h3 _ ha _ hkm⟩
      · intro a ha
        rcases List.mem_append.1 ha with ha | ha
        · exact h2 a ha
        · simp at ha; subst ha; exact hno _ hkm
      · intro a ha b hb'
        have hb'' := cut_mem hb'
        rcases List.mem_append.1 ha with ha | ha
        · exact h3 a ha b hb''
        · simp at ha; subst ha; exact hno b hb''
theorem orderP_ordd {gs : List PNode} (h : ¬ (orderP gs).length < gs.length) : Ordd gs (orderP gs) := by
  have hp := behindP_perm gs gs.length [] (numsI gs.length)
  have hf := behindP_facts gs gs.length [] (numsI gs.length) (by rw [numsI_len]; exact Nat.le_refl _)
  have ho := behindP_ord gs gs.length [] (numsI gs.length) (by simp) (by simp) (by simp)
  have h2 : (behindP gs gs.length [] (numsI gs.length)).2 = [] := by
    have h1 := hf.1
    rw [numsI_len] at h1
    unfold orderP at h
    exact List.length_eq_zero_iff.1 (by simp at h1; omega)
  rw [h2, List.append_nil, List.nil_append] at hp
  exact ⟨hp, ho.1, ho.2⟩
section
variable {gs : List PNode} {R : List Int}
theorem Ordd.nodup (h : Ordd gs R) : R.Nodup := h.perm.nodup_iff.2 (inc_nodup (numsI_inc _))
theorem Ordd.rng (h : Ordd gs R) : ∀ a ∈ R, ∃ j : Nat, j < gs.length ∧ a = (j : Int) := fun _ ha => numsI_mem (h.perm.subset ha)
theorem Ordd.has (h : Ordd gs R) {k : Nat} (hk : k < gs.length) : (k : Int) ∈ R := h.perm.symm.subset (numsI_has hk)
theorem Ordd.len (h : Ordd gs R) : R.length = gs.length := by rw [h.perm.length_eq, numsI_len]
/-- What a node leads to lies behind it. -/
theorem Ordd.next (h : Ordd gs R) (hE : EdgesIn gs) {t k : Nat} (ht : t < R.length) (ek : el R t = (k : Int)) : ∀ y ∈ nxP gs k, y ∈ R.drop (t + 1) := by
  intro y hy
  have hkm : (k : Int) ∈ R := by rw [← ek]; exact el_mem ht
  obtain ⟨k', hk', e⟩ := h.rng _ hkm
  obtain rfl : k = k' := by omega
  obtain ⟨j, hj, rfl⟩ := hE.rng k hk' y hy
  have hm := h.has hj
  have hs : R = R.take t ++ el R t :: R.drop (t + 1) := by rw [el_at ht, List.getElem_cons_drop, List.take_append_drop]
  have hf := h.fwd
  rw [hs, ek] at hm hf
  rcases List.mem_append.1 hm with hm | hm
  · exfalso
    rw [List.pairwise_append] at hf
    exact hf.2.2 _ hm (k : Int) (by simp) (by simpa using hy)
  · rcases List.mem_cons.1 hm with hm | hm
    · exfalso
      have := h.self _ hkm
      simp only [Int.toNat_natCast] at this
      rw [hm] at hy
      exact this hy
    · exact hm
end
end
section
open Go.RowKit

/-- What a value at a node means, by so many steps. -/
def meanN (gs : List PNode) : Nat → Nat → Int → List (Int × Int)
  | 0, _, _ => []
  | n + 1, k, v => (outM gs k v).flatMap fun x => if (nxP gs k).length = 0 then [((k : Int), x)] else (nxP gs k).flatMap fun y => meanN gs n y.toNat x
/-- What a value at a node means. -/
def meanG (gs : List PNode) (k : Nat) (v : Int) : List (Int × Int) := meanN gs gs.length k v
/-- How many stand at or behind it. -/
def rk (R : List Int) (k : Nat) : Nat := R.length - R.idxOf (k : Int)
section
variable {gs : List PNode} {R : List Int}
theorem Ordd.at (h : Ordd gs R) {k : Nat} (hk : k < gs.length) : R.idxOf (k : Int) < R.length ∧ el R (R.idxOf (k : Int)) = (k : Int) := by
  have hl : R.idxOf (k : Int) < R.length := List.idxOf_lt_length_of_mem (h.has hk)
  exact ⟨hl, by rw [el_at hl]; exact List.getElem_idxOf hl⟩
theorem idx_drop {l : List Int} (hn : l.Nodup) {t : Nat} {y : Int} (hy : y ∈ l.drop (t + 1)) : t < l.idxOf y := by
  obtain ⟨j, hj, e⟩ := List.getElem_of_mem hy
  rw [List.length_drop] at hj
  rw [List.getElem_drop] at e
  have hlt : t + 1 + j < l.length := by omega
  have hm : y ∈ l := by rw [← e]; exact List.getElem_mem hlt
  have hi := List.idxOf_lt_length_of_mem hm
  have e2 : l[l.idxOf y]'hi = l[t + 1 + j]'hlt := by rw [List.getElem_idxOf hi, e]
  rcases Nat.lt_or_ge t (l.idxOf y) with h | h
  · exact h
  · exact absurd e2 (List.pairwise_iff_getElem.1 hn _ _ hi hlt (by omega))
theorem Ordd.rk_next (h : Ordd gs R) (hE : EdgesIn gs) {k : Nat} (hk : k < gs.length) : ∀ y ∈ nxP gs k, ∃ j : Nat, j < gs.length ∧ y = (j : Int) ∧ rk R j < rk R k := by
  intro y hy
  obtain ⟨j, hj, rfl⟩ := hE.rng k hk y hy
  refine ⟨j, hj, rfl, ?_⟩
  have ha := h.at hk
  have hn := idx_drop h.nodup (h.next hE ha.1 ha.2 _ hy)
  have hb := h.at hj
  unfold rk
  omega
theorem Ordd.rk_le (h : Ordd gs R) (k : Nat) : rk R k ≤ gs.length := by have := h.len; unfold rk; omega
theorem Ordd.rk_pos (h : Ordd gs R) {k : Nat} (hk : k < gs.length) : 1 ≤ rk R k := by have := (h.at hk).1; unfold rk; omega
theorem flatMap_congr' {α β : Type} {f g : α → List β} : ∀ {l : List α}, (∀ x ∈ l, f x = g x) → l.flatMap f = l.flatMap g
  | [], _ => rfl
  | x :: r, h => by rw [List.flatMap_cons, List.flatMap_cons, h x (by simp), flatMap_congr' (l := r) fun y hy => h y (by simp [hy])]
theorem meanN_same (h : Ordd gs R) (hE : EdgesIn gs) : ∀ (n m k : Nat) (v : Int), k < gs.length → rk R k ≤ n → rk R k ≤ m → meanN gs n k v = meanN gs m k v
  | 0, _, k, _, hk, hn, _ => by have := h.rk_pos hk; omega
  | _ + 1, 0, k, _, hk, _, hm => by have := h.rk_pos hk; omega
  | n + 1, m + 1, k, v, hk, hn, hm => by
    rw [meanN, meanN]
    refine flatMap_congr' fun x _ => ?_
    split
    · rfl
    · refine flatMap_congr' fun y hy => ?_
      obtain ⟨j, hj, rfl, hr⟩ := h.rk_next hE hk y hy
      rw [Int.toNat_natCast]
      exact meanN_same h hE n m j x hj (by omega) (by omega)
theorem meanG_eq (h : Ordd gs R) (hE : EdgesIn gs) {k : Nat} (hk : k < gs.length) (v : Int) :
    meanG gs k v = (outM gs k v).flatMap fun x => if (nxP gs k).length = 0 then [((k : Int), x)] else (nxP gs k).flatMap fun y => meanG gs y.toNat x := by
  obtain ⟨n, hn⟩ : ∃ n, gs.length = n + 1 := ⟨gs.length - 1, by omega⟩
  have h1 : meanG gs k v = meanN gs (n + 1) k v := by rw [meanG, hn]
  rw [h1, meanN]
  refine flatMap_congr' fun x _ => ?_
  split
  · rfl
  · refine flatMap_congr' fun y hy => ?_
    obtain ⟨j, hj, rfl, hr⟩ := h.rk_next hE hk y hy
    have := h.rk_le k
    rw [Int.toNat_natCast, meanG]
    exact meanN_same h hE n gs.length j x hj (by omega) (h.rk_le j)
/-- A weight of what is emitted, as a weight of values at nodes. -/
theorem mean_weight (h : Ordd gs R) (hE : EdgesIn gs) (ψ : Int × Int → Int) {k : Nat} (hk : k < gs.length) (v : Int) :
    sumI ψ (meanG gs k v) = sumI (thenW gs (fun j x => sumI ψ (meanG gs j x)) ψ k) (outM gs k v) := by
  rw [meanG_eq h hE hk, sumI_flat]
  refine sumI_congr fun x _ => ?_
  unfold thenW
  split
  · exact sumI_one _ _
  · rw [sumI_flat]
/-- How wide a node may be. -/
def wdP (gs : List PNode) (R : List Int) (k : Nat) : Int := el (wdAt gs R.reverse R.length) k
theorem sumW_sumI (wd : List Int) : ∀ nx : List Int, sumW wd nx = sumI (fun y => el wd y.toNat) nx
  | [] => rfl
  | x :: r => by
    have := sumW_sumI wd r
    simp only [sumW, List.map_cons, List.sum_cons, sumI] at this ⊢
    rw [this]
theorem Ordd.nx_take (h : Ordd gs R) (hE : EdgesIn gs) {t k : Nat} (ht : t < R.reverse.length) (ek : el R.reverse t = (k : Int)) : ∀ y ∈ nxP gs k, y ∈ R.reverse.take t := by
  intro y hy
  have htl : t < R.length := by rw [List.length_reverse] at ht; exact ht
  rw [el_reverse htl] at ek
  have := h.next hE (t := R.length - 1 - t) (by omega) ek y hy
  rw [List.take_reverse, List.mem_reverse, show R.length - t = R.length - 1 - t + 1 by omega]
  exact this
theorem wNew_congr {wd wd' : List Int} {k : Nat} (h : ∀ y ∈ nxP gs k, el wd y.toNat = el wd' y.toNat) : wNew gs wd k = wNew gs wd' k := by
  unfold wNew
  rw [sumW_sumI, sumW_sumI, sumI_congr h]
theorem wd_done (h : Ordd gs R) (hE : EdgesIn gs) : ∀ t, t ≤ R.reverse.length → ∀ k : Nat, k < gs.length → (k : Int) ∈ R.reverse.take t → el (wdAt gs R.reverse t) k = wNew gs (wdAt gs R.reverse t) k
  | 0, _, k, _, hm => by simp at hm
  | t + 1, ht, k, hk, hm => by
    have hlt : t < R.reverse.length := by omega
    obtain ⟨j, hj, ej⟩ : ∃ j : Nat, j < gs.length ∧ el R.reverse t = (j : Int) := h.rng _ (List.mem_reverse.1 (el_mem hlt))
    have hnd : R.reverse.Nodup := by
      have := h.nodup
      rw [List.Nodup, List.pairwise_reverse]; exact List.Pairwise.imp Ne.symm this
    have hout := nodup_take hlt hnd
    rw [ej] at hout
    have hset : ∀ x : Nat, el (wdAt gs R.reverse (t + 1)) x = if x = j then wNew gs (wdAt gs R.reverse t) j else el (wdAt gs R.reverse t) x := fun x => by
      rw [wdAt, ej, Int.toNat_natCast, el_setI (by rw [wdAt_len]; exact hj)]
    have hsame : ∀ i : Nat, i < gs.length → (∀ y ∈ nxP gs i, y ∈ R.reverse.take t) → wNew gs (wdAt gs R.reverse (t + 1)) i = wNew gs (wdAt gs R.reverse t) i := fun i hi hn => by
      refine wNew_congr fun y hy => ?_
      obtain ⟨b, hb, rfl⟩ := hE.rng i hi y hy
      rw [Int.toNat_natCast, hset, if_neg]
      intro e
      subst e
      exact hout (hn _ hy)
    have hcl := h.nx_take hE hlt ej
    rw [take_succ_el hlt, ej] at hm
    by_cases e : k = j
    · subst e
      rw [hset, if_pos rfl, hsame k hk hcl]
    · have hm2 : (k : Int) ∈ R.reverse.take t := by
        rcases List.mem_append.1 hm with hm | hm
        · exact hm
        · rw [List.mem_singleton] at hm; omega
      have ih := wd_done h hE t (by omega) k hk hm2
      rw [hset, if_neg e, ih, hsame k hk]
      intro y hy
      obtain ⟨i, hi, ei⟩ := mem_el hm2
      rw [List.length_take] at hi
      have hit : i < t := by omega
      have eit : el R.reverse i = (k : Int) := by rw [← ei]; exact (el_take hit).symm
      have := h.nx_take hE (t := i) (by omega) eit y hy
      have hsub : R.reverse.take i = (R.reverse.take t).take i := by rw [List.take_take, Nat.min_eq_left (by omega)]
      rw [hsub] at this
      exact List.mem_of_mem_take this
theorem wdP_eq (h : Ordd gs R) (hE : EdgesIn gs) {k : Nat} (hk : k < gs.length) : wdP gs R k = factI (el gs k).2.1 (el gs k).2.2.1 (el gs k).2.2.2.1 * (if (nxP gs k).length = 0 then 1 else sumI (fun y => wdP gs R y.toNat) (nxP gs k)) := by
  have hl : R.reverse.length = R.length := List.length_reverse
  have := wd_done h hE R.reverse.length (Nat.le_refl _) k hk (by rw [List.take_length, List.mem_reverse]; exact h.has hk)
  rw [hl] at this
  rw [wdP, this, wNew, sumW_sumI]; rfl
theorem wdP_pos (h : Ordd gs R) (hE : EdgesIn gs) (hS : GoodSts gs) : ∀ (n k : Nat), k < gs.length → rk R k ≤ n → 1 ≤ wdP gs R k
  | 0, k, hk, hn => by have := h.rk_pos hk; omega
  | n + 1, k, hk, hn => by
    have hf := fact_pos (hS k hk)
    rw [wdP_eq h hE hk]
    have hz : 1 ≤ (if (nxP gs k).length = 0 then 1 else sumI (fun y => wdP gs R y.toNat) (nxP gs k)) := by
      split
      · omega
      · next hne =>
        have hge := sumI_ge_len (f := fun y : Int => wdP gs R y.toNat) (l := nxP gs k) fun y hy => by
          obtain ⟨j, hj, rfl, hr⟩ := h.rk_next hE hk y hy
          rw [Int.toNat_natCast]
          exact wdP_pos h hE hS n j hj (by omega)
        omega
    have := Int.mul_le_mul_of_nonneg_left hz (show 0 ≤ factI (el gs k).2.1 (el gs k).2.2.1 (el gs k).2.2.2.1 by omega)
    omega
theorem wdP_one (h : Ordd gs R) (hE : EdgesIn gs) (hS : GoodSts gs) {k : Nat} (hk : k < gs.length) : 1 ≤ wdP gs R k := wdP_pos h hE hS _ k hk (Nat.le_refl _)
/-- The widths do not grow along the graph. -/
theorem wdP_falls (h : Ordd gs R) (hE : EdgesIn gs) (hS : GoodSts gs) : Falls gs (fun k _ => wdP gs R k) fun _ => 1 := by
  intro k v hk
  have hle := outM_len (hS k hk) v
  have hc : ∀ x, thenW gs (fun k _ => wdP gs R k) (fun _ => 1) k x = (if (nxP gs k).length = 0 then 1 else sumI (fun y => wdP gs R y.toNat) (nxP gs k)) := fun x => by unfold thenW; split <;> rfl
  have hz : 0 ≤ (if (nxP gs k).length = 0 then 1 else sumI (fun y => wdP gs R y.toNat) (nxP gs k)) := by
    split
    · omega
    · refine sumI_nn fun y hy => ?_
      obtain ⟨j, hj, rfl, _⟩ := h.rk_next hE hk y hy
      have := wdP_one h hE hS hj
      rw [Int.toNat_natCast]; omega
  show _ ≤ wdP gs R k
  rw [sumI_congr (fun x _ => hc x), wdP_eq h hE hk]
  refine Int.le_trans (sumI_le_len (c := (if (nxP gs k).length = 0 then 1 else sumI (fun y => wdP gs R y.toNat) (nxP gs k))) fun _ _ => Int.le_refl _) ?_
  rw [Int.mul_comm]
  exact Int.mul_le_mul_of_nonneg_right hle hz
theorem maxL_ge : ∀ {l : List Int} {k : Nat}, k < l.length → el l k ≤ maxL l
  | [], _, h => by simp at h
  | x :: r, 0, _ => by rw [el_zero, maxL]; omega
  | x :: r, k + 1, h => by
    have := maxL_ge (l := r) (k := k) (by simpa using h)
    rw [el_cons, maxL]; omega
end
theorem wdP_le {gs : List PNode} {k : Nat} (hk : k < gs.length) : wdP gs (orderP gs) k ≤ widP gs := maxL_ge (by rw [wdAt_len]; exact hk)
/-- A value means no more than its node is wide. -/
theorem mean_len {gs : List PNode} {R : List Int} (h : Ordd gs R) (hE : EdgesIn gs) (hS : GoodSts gs) : ∀ (n k : Nat) (v : Int), k < gs.length → rk R k ≤ n → ((meanG gs k v).length : Int) ≤ wdP gs R k
  | 0, k, _, hk, hn => by have := h.rk_pos hk; omega
  | n + 1, k, v, hk, hn => by
    have hf := wdP_falls h hE hS k v hk
    refine Int.le_trans ?_ hf
    have e : ((meanG gs k v).length : Int) = sumI (fun _ => 1) (meanG gs k v) := by
      have : ∀ l : List (Int × Int), (l.length : Int) = sumI (fun _ => 1) l := fun l => by
        induction l with
        | nil => rfl
        | cons x r ih => simp only [List.length_cons, sumI]; omega
      exact this _
    rw [e, mean_weight h hE _ hk]
    refine sumI_le fun x _ => ?_
    unfold thenW
    split
    · exact Int.le_refl _
    · refine sumI_le fun y hy => ?_
      obtain ⟨j, hj, rfl, hr⟩ := h.rk_next hE hk y hy
      rw [Int.toNat_natCast]
      have ih := mean_len h hE hS n j x hj (by omega)
      have e2 : sumI (fun _ : Int × Int => 1) (meanG gs j x) = ((meanG gs j x).length : Int) := by
        have : ∀ l : List (Int × Int), sumI (fun _ => 1) l = (l.length : Int) := fun l => by
          induction l with
          | nil => rfl
          | cons x r ih => simp only [List.length_cons, sumI]; omega
        exact this _
      show sumI (fun _ : Int × Int => 1) (meanG gs j x) ≤ wdP gs R j
      rw [e2]; exact ih
end
section
open Go.RowKit

theorem el_setG {α : Type} [Inhabited α] {L : List α} {k x : Nat} {v : α} (hk : k < L.length) : el (L.set k v) x = if x = k then v else el L x := by
  unfold el
  rw [List.getElem?_set]
  by_cases h : k = x
  · subst h; simp [hk]
  · rw [if_neg h, if_neg (fun e => h e.symm)]
/-- What comes out goes into each of these. -/
def intoAll (out : List Int) : List Int → List (List Int) → List (List Int)
  | [], I => I
  | y :: r, I => intoAll out r (I.set y.toNat (el I y.toNat ++ out))
theorem intoAll_len (out : List Int) : ∀ (nx : List Int) (I : List (List Int)), (intoAll out nx I).length = I.length
  | [], _ => rfl
  | y :: r, I => by rw [intoAll, intoAll_len out r]; simp
theorem intoAll_app (out : List Int) : ∀ (l r : List Int) (I : List (List Int)), intoAll out (l ++ r) I = intoAll out r (intoAll out l I)
  | [], _, _ => rfl
  | y :: l, r, I => by rw [List.cons_append, intoAll, intoAll_app out l r]; rfl
theorem intoAll_succ (out : List Int) {nx : List Int} {m : Nat} (hm : m < nx.length) (I : List (List Int)) : intoAll out (nx.take (m + 1)) I = (intoAll out (nx.take m) I).set (el nx m).toNat (el (intoAll out (nx.take m) I) (el nx m).toNat ++ out) := by
  rw [take_succ_el hm, intoAll_app]; rfl
/-- The numbers are places in a row of rows. -/
def Places (n : Nat) (nx : List Int) : Prop := ∀ y ∈ nx, ∃ j : Nat, j < n ∧ y = (j : Int)
theorem intoAll_other (out : List Int) : ∀ (nx : List Int) (I : List (List Int)) (k : Nat), Places I.length nx → (k : Int) ∉ nx → el (intoAll out nx I) k = el I k
  | [], _, _, _, _ => rfl
  | y :: r, I, k, hp, hk => by
    obtain ⟨j, hj, rfl⟩ := hp y (by simp)
    have hne : k ≠ j := fun e => hk (by simp [e])
    rw [intoAll, Int.toNat_natCast, intoAll_other out r _ k (fun z hz => by rw [List.length_set]; exact hp z (by simp [hz])) (fun h => hk (by simp [h])), el_setG hj, if_neg hne]
theorem intoAll_grows (out : List Int) : ∀ (nx : List Int) (I : List (List Int)) (k : Nat), Places I.length nx → (el I k).length ≤ (el (intoAll out nx I) k).length
  | [], _, _, _ => Nat.le_refl _
  | y :: r, I, k, hp => by
    obtain ⟨j, hj, rfl⟩ := hp y (by simp)
    rw [intoAll, Int.toNat_natCast]
    refine Nat.le_trans ?_ (intoAll_grows out r _ k (fun z hz => by rw [List.length_set]; exact hp z (by simp [hz])))
    rw [el_setG hj]
    split
    · next e => subst e; simp
    · exact Nat.le_refl _
/-- A state: what has come into each node, and what was emitted. -/
abbrev ES := List (List Int) × List (Int × Int)
/-- One value passes a node. -/
def stepV (gs : List PNode) (k : Nat) (s : ES) (v : Int) : ES :=
  (intoAll (outM gs k v) (nxP gs k) s.1, if (nxP gs k).length = 0 then s.2 ++ (outM gs k v).map fun x => ((k : Int), x) else s.2)
/-- All that came into a node passes it. -/
def stepN (gs : List PNode) (s : ES) (k : Nat) : ES := (el s.1 k).foldl (stepV gs k) s
def emitAt (gs : List PNode) (rest : List Int) (s : ES) : ES := rest.foldl (fun s a => stepN gs s a.toNat) s
def emit0 (n k : Nat) (v : Int) : ES := ((List.replicate n []).set k [v], [])
/-- What is emitted in all, node by node. -/
def emitP (gs : List PNode) (k : Nat) (v : Int) : List (Int × Int) := (emitAt gs (orderP gs) (emit0 gs.length k v)).2
theorem stepV_len (gs : List PNode) (k : Nat) (s : ES) (v : Int) : (stepV gs k s v).1.length = s.1.length := intoAll_len _ _ _
theorem fold_len (gs : List PNode) (k : Nat) : ∀ (vs : List Int) (s : ES), (vs.foldl (stepV gs k) s).1.length = s.1.length
  | [], _ => rfl
  | v :: r, s => by rw [List.foldl_cons, fold_len gs k r, stepV_len]
theorem stepN_len (gs : List PNode) (s : ES) (k : Nat) : (stepN gs s k).1.length = s.1.length := fold_len gs k _ _
theorem emitAt_len (gs : List PNode) : ∀ (rest : List Int) (s : ES), (emitAt gs rest s).1.length = s.1.length
  | [], _ => rfl
  | a :: r, s => by
    have := emitAt_len gs r (stepN gs s a.toNat)
    rw [stepN_len] at this
    exact this
theorem emitAt_cons (gs : List PNode) (a : Int) (r : List Int) (s : ES) : emitAt gs (a :: r) s = emitAt gs r (stepN gs s a.toNat) := rfl
theorem emitAt_app (gs : List PNode) (l r : List Int) (s : ES) : emitAt gs (l ++ r) s = emitAt gs r (emitAt gs l s) := by rw [emitAt, List.foldl_append]; rfl
/-- The weight of what is still to pass. -/
def wRows (φ : Nat → Int → Int) (I : List (List Int)) (rest : List Int) : Int := sumI (fun a => sumI (φ a.toNat) (el I a.toNat)) rest
theorem wRows_off (φ : Nat → Int → Int) {I : List (List Int)} {j : Nat} {l : List Int} (hj : j < I.length) {rest : List Int} (hp : Places I.length rest) (hn : (j : Int) ∉ rest) : wRows φ (I.set j l) rest = wRows φ I rest := by
  refine sumI_congr fun a ha => ?_
  obtain ⟨i, hi, rfl⟩ := hp a ha
  have hne : i ≠ j := fun e => hn (by rw [← e]; exact ha)
  rw [Int.toNat_natCast, el_setG hj, if_neg hne]
theorem wRows_set (φ : Nat → Int → Int) {I : List (List Int)} {j : Nat} (out : List Int) (hj : j < I.length) : ∀ {rest : List Int}, rest.Nodup → Places I.length rest → (j : Int) ∈ rest → wRows φ (I.set j (el I j ++ out)) rest = wRows φ I rest + sumI (φ j) out
  | a :: r, hn, hp, hm => by
    rw [List.nodup_cons] at hn
    obtain ⟨i, hi, rfl⟩ := hp a (by simp)
    have hpr : Places I.length r := fun y hy => hp y (by simp [hy])
    by_cases e : i = j
    · subst e
      have h1 := wRows_off φ (l := el I i ++ out) hi hpr hn.1
      unfold wRows at h1 ⊢
      simp only [sumI]
      rw [h1, Int.toNat_natCast, el_setG hi, if_pos rfl, sumI_app]
      omega
    · have hm2 : (j : Int) ∈ r := by
        rcases List.mem_cons.1 hm with h | h
        · omega
        · exact h
      have ih := wRows_set φ out hj hn.2 hpr hm2
      unfold wRows at ih ⊢
      simp only [sumI]
      rw [ih, Int.toNat_natCast, el_setG hj, if_neg e]
      omega
theorem wRows_into (φ : Nat → Int → Int) (out : List Int) {rest : List Int} (hn : rest.Nodup) : ∀ (nx : List Int) (I : List (List Int)), Places I.length rest → (∀ y ∈ nx, y ∈ rest) → wRows φ (intoAll out nx I) rest = wRows φ I rest + sumI (fun y => sumI (φ y.toNat) out) nx
  | [], I, _, _ => by simp [intoAll, sumI]
  | y :: r, I, hp, hs => by
    obtain ⟨j, hj, rfl⟩ := hp y (hs y (by simp))
    have ih := wRows_into φ out hn r (I.set j (el I j ++ out)) (fun z hz => by rw [List.length_set]; exact hp z hz) fun z hz => hs z (by simp [hz])
    rw [intoAll, Int.toNat_natCast, ih, wRows_set φ out hj hn hp (hs _ (by simp))]
    simp only [sumI, Int.toNat_natCast]
    omega
section
variable {gs : List PNode} {R : List Int} {φ : Nat → Int → Int} {ψ : Int × Int → Int}
theorem stepV_w (hF : Falls gs φ ψ) {k : Nat} (hk : k < gs.length) {rest : List Int} (hn : rest.Nodup) (s : ES) (v : Int) (hp : Places s.1.length rest) (hx : ∀ y ∈ nxP gs k, y ∈ rest) :
    sumI ψ (stepV gs k s v).2 + wRows φ (stepV gs k s v).1 rest ≤ sumI ψ s.2 + φ k v + wRows φ s.1 rest := by
  have h := hF k v hk
  unfold stepV
  dsimp only
  rw [wRows_into φ _ hn _ _ hp hx]
  by_cases h0 : (nxP gs k).length = 0
  · have e : nxP gs k = [] := List.length_eq_zero_iff.1 h0
    have e2 : sumI ψ ((outM gs k v).map fun x => ((k : Int), x)) = sumI (fun x => ψ ((k : Int), x)) (outM gs k v) := sumI_map _ _ _
    have hc : sumI (thenW gs φ ψ k) (outM gs k v) = sumI (fun x => ψ ((k : Int), x)) (outM gs k v) := sumI_congr fun x _ => by rw [thenW, if_pos h0]
    have e3 : sumI (fun y : Int => sumI (φ y.toNat) (outM gs k v)) [] = 0 := rfl
    rw [if_pos h0, sumI_app, e2, e, e3]
    omega
  · rw [if_neg h0]
    have hc : sumI (thenW gs φ ψ k) (outM gs k v) = sumI (fun x => sumI (fun y : Int => φ y.toNat x) (nxP gs k)) (outM gs k v) := sumI_congr fun x _ => by rw [thenW, if_neg h0]
    have hs : sumI (fun y : Int => sumI (φ y.toNat) (outM gs k v)) (nxP gs k) = sumI (fun x => sumI (fun y : Int => φ y.toNat x) (nxP gs k)) (outM gs k v) := sumI_swap (fun (y : Int) (x : Int) => φ y.toNat x) _ _
    omega
theorem fold_w (hF : Falls gs φ ψ) {k : Nat} (hk : k < gs.length) {rest : List Int} (hn : rest.Nodup) (hx : ∀ y ∈ nxP gs k, y ∈ rest) : ∀ (vs : List Int) (s : ES), Places s.1.length rest →
    sumI ψ (vs.foldl (stepV gs k) s).2 + wRows φ (vs.foldl (stepV gs k) s).1 rest ≤ sumI ψ s.2 + sumI (φ k) vs + wRows φ s.1 rest
  | [], s, _ => by simp only [List.foldl_nil, sumI]; omega
  | v :: r, s, hp => by
    have h1 := stepV_w hF hk hn s v hp hx
    have h2 := fold_w hF hk hn hx r (stepV gs k s v) (by rw [stepV_len]; exact hp)
    rw [List.foldl_cons]
    simp only [sumI]
    omega
theorem Ordd.places (h : Ordd gs R) {t : Nat} : Places gs.length (R.drop t) := fun y hy => h.rng y (List.mem_of_mem_drop hy)
theorem Ordd.drop_nodup (h : Ordd gs R) (t : Nat) : (R.drop t).Nodup := (List.drop_sublist t R).nodup h.nodup
/-- Node by node the weight does not grow. -/
theorem part_w (h : Ordd gs R) (hE : EdgesIn gs) (hF : Falls gs φ ψ) (s : ES) (hl : s.1.length = gs.length) : ∀ t, t ≤ R.length →
    sumI ψ (emitAt gs (R.take t) s).2 + wRows φ (emitAt gs (R.take t) s).1 (R.drop t) ≤ sumI ψ s.2 + wRows φ s.1 R
  | 0, _ => by rw [List.take_zero, List.drop_zero]; exact Int.le_refl _
  | t + 1, ht => by
    have hlt : t < R.length := by omega
    have ih := part_w h hE hF s hl t (by omega)
    obtain ⟨k, hk, ek⟩ := h.rng _ (el_mem hlt)
    have hd : R.drop t = (k : Int) :: R.drop (t + 1) := by rw [← ek, el_at hlt, List.getElem_cons_drop]
    rw [take_succ_el hlt, ek, emitAt_app, emitAt_cons, Int.toNat_natCast]
    have hlen : (emitAt gs (R.take t) s).1.length = gs.length := by rw [emitAt_len, hl]
    have hf := fold_w hF hk (h.drop_nodup (t + 1)) (h.next hE hlt ek) (el (emitAt gs (R.take t) s).1 k) (emitAt gs (R.take t) s) (by rw [hlen]; exact h.places)
    rw [hd] at ih
    have e : wRows φ (emitAt gs (R.take t) s).1 ((k : Int) :: R.drop (t + 1)) = sumI (φ k) (el (emitAt gs (R.take t) s).1 k) + wRows φ (emitAt gs (R.take t) s).1 (R.drop (t + 1)) := by
      unfold wRows; simp only [sumI, Int.toNat_natCast]
    rw [e] at ih
    show sumI ψ (stepN gs (emitAt gs (R.take t) s) k).2 + wRows φ (stepN gs (emitAt gs (R.take t) s) k).1 (R.drop (t + 1)) ≤ _
    unfold stepN
    omega
theorem start_w (h : Ordd gs R) {k : Nat} (hk : k < gs.length) (v : Int) : wRows φ (emit0 gs.length k v).1 R = φ k v := by
  have hlr : (List.replicate gs.length ([] : List Int)).length = gs.length := List.length_replicate
  have hz : wRows φ (List.replicate gs.length []) R = 0 := by
    have : wRows φ (List.replicate gs.length []) R = sumI (fun _ => 0) R := sumI_congr fun a ha => by
      obtain ⟨j, hj, rfl⟩ := h.rng a ha
      have : el (List.replicate gs.length ([] : List Int)) ((j : Int)).toNat = [] := by simp [el, hj]
      rw [this]; rfl
    rw [this, sumI_zero]
  have hs := wRows_set φ (I := List.replicate gs.length []) (j := k) [v] (by rw [hlr]; exact hk) h.nodup (fun y hy => by rw [hlr]; exact h.rng y hy) (h.has hk)
  have he : el (List.replicate gs.length ([] : List Int)) k = [] := by simp [el, hk]
  rw [he, List.nil_append, hz, sumI_one] at hs
  unfold emit0
  rw [hs]; omega
theorem emit0_len (n k : Nat) (v : Int) : (emit0 n k v).1.length = n := by simp [emit0]
/-- The weight of all that is emitted. -/
theorem emit_le (h : Ordd gs R) (hE : EdgesIn gs) (hF : Falls gs φ ψ) {k : Nat} (hk : k < gs.length) (v : Int) : sumI ψ (emitAt gs R (emit0 gs.length k v)).2 ≤ φ k v := by
  have := part_w h hE hF (emit0 gs.length k v) (emit0_len _ _ _) R.length (Nat.le_refl _)
  rw [List.take_length, List.drop_length, start_w h hk] at this
  have e0 : sumI ψ (emit0 gs.length k v).2 = 0 := rfl
  have e1 : wRows φ (emitAt gs R (emit0 gs.length k v)).1 [] = 0 := rfl
  omega
theorem falls_mean (h : Ordd gs R) (hE : EdgesIn gs) (ψ : Int × Int → Int) : Falls gs (fun k v => sumI ψ (meanG gs k v)) ψ := fun k v hk => by
  show _ ≤ sumI ψ (meanG gs k v)
  rw [mean_weight h hE ψ hk v]; exact Int.le_refl _
theorem emit_sum (h : Ordd gs R) (hE : EdgesIn gs) (ψ : Int × Int → Int) {k : Nat} (hk : k < gs.length) (v : Int) : sumI ψ (emitAt gs R (emit0 gs.length k v)).2 = sumI ψ (meanG gs k v) := by
  have h1 := emit_le h hE (falls_mean h hE ψ) hk v
  have h2 := emit_le h hE (falls_mean h hE fun e => - ψ e) hk v
  simp only [sumI_neg] at h2
  omega
/-- Node by node, or each value for itself: the same is emitted. -/
theorem emit_perm (h : Ordd gs R) (hE : EdgesIn gs) {k : Nat} (hk : k < gs.length) (v : Int) : (emitAt gs R (emit0 gs.length k v)).2.Perm (meanG gs k v) := perm_of_sums fun ψ => emit_sum h hE ψ hk v
end
end
section
open Go.RowKit

/-- A row of Emit. -/
def kE : Kind (Int × Int) := ⟨84, 36, 2, fun t => [.int .i64 t.1, .int .i64 t.2], fun _ => rfl, fun a v h => by simp at h; rcases h with rfl | rfl <;> rfl⟩
theorem Tryz.info84 : (Tryz.prog.info? 84).map (fun i => (i.zero, i.size, i.bytes)) = some (some (.agg #[.int .i64 0, .int .i64 0]), 2, 16) := by kernel_rfl
theorem kE_ok : kE.Ok := kind_ok (K := kE) Tryz.underlying36 Tryz.info84 rfl (by decide) (by decide)
theorem kE_at {n : Nat} {W : World} {ao : Option Addr} {ts : List (Int × Int)} (h : kE.In n W ao ts) {k : Nat} (hk : k < ts.length) :
    ∃ b off, ao = some ⟨b, off, none⟩ ∧ b < n ∧ ∀ j, j < ts.length → W.cell? ⟨b, off + j * 2, none⟩ = some (.int .i64 (el ts j).1) ∧ W.cell? ⟨b, off + j * 2 + 1, none⟩ = some (.int .i64 (el ts j).2) := by
  obtain ⟨b, off, e, hb, hc⟩ := h.pos hk
  exact ⟨b, off, e, hb, fun j hj => ⟨hc j hj 0 (by decide), hc j hj 1 (by decide)⟩⟩
theorem kE_one {n : Nat} {W : World} {p : Nat} {t : Int × Int} (hp : p < n) (h0 : W.cell? ⟨p, 0, none⟩ = some (.int .i64 t.1)) (h1 : W.cell? ⟨p, 1, none⟩ = some (.int .i64 t.2)) : kE.In n W (some ⟨p, 0, none⟩) [t] := by
  refine Kind.In.mk1 hp fun i hi => ?_
  rw [Nat.zero_add]
  have hi' : i < 2 := hi
  rcases (show i = 0 ∨ i = 1 from by omega) with rfl | rfl
  · exact h0
  · exact h1
/-- The marks of a row of Emit. -/
def markE (k : Int) (n : Nat) : List (Int × Int) := (List.range n).map (fun i : Nat => (k + 2 * (i : Int), k + 2 * (i : Int) + 1))
theorem markE_len (k : Int) (n : Nat) : (markE k n).length = n := by simp [markE]
theorem markE_at (k : Int) (n j : Nat) (h : j < n) : el (markE k n) j = (k + 2 * (j : Int), k + 2 * (j : Int) + 1) := by simp [markE, el, h]
set_option maxHeartbeats 1000000 in
theorem copyListE_any (ao : Option Addr) (cap : Nat) (ts : List (Int × Int)) (w : World) (hl : ts.length ≤ 1048576) (hz : kE.In w.heap.size w ao ts) :
    Calls Tryz.prog 82 #[.slice ao ts.length cap] w fun e w' => (∃ t9, e = .returned (.slice t9 ts.length ts.length) ∧ kE.Fresh w.heap.size w'.heap.size w' t9 ts.length ts) ∧ Below w.heap.size w w' := by
  by_cases h0 : ts.length = 0
  · obtain rfl : ts = [] := List.length_eq_zero_iff.1 h0
    go_enter Tryz.func82, Tryz.ntmps82
    go_wp2
    go_ret
    exact ⟨⟨none, rfl, .inl rfl⟩, Below.refl _ _⟩
  · have h0' : ((ts.length : Int) == 0) = false := (len1 h0).1
    obtain ⟨i0, z0, hi, hz0, hz1, hz2, hz3⟩ := kE_ok.info
    have HZ : Hid (kE.In w.heap.size w ao ts) := hz
    have hby : i0.bytes * ts.length ≤ 281474976710656 := by have : i0.bytes * ts.length ≤ 4096 * 1048576 := Nat.mul_le_mul hz3 hl; omega
    clear hz
    go_enter Tryz.func82, Tryz.ntmps82
    go_wp2_with (at_make; refine wpList_make_full _ rfl _ _ kE.st rfl w.heap.size kE.ty i0 z0 kE.sz kE_ok.und hi hz0 hz1 .i64 .i64 _ _ ts.length rfl rfl rfl rfl hby (by unfold maxLen; omega) (Nat.le_refl _) ?_; intro w1 hown hgrow; obtain ⟨cur, hcur, hcl, _⟩ := owns_open hown; have hB1 : Below w.heap.size w w1 := (Below.refl _ _).grown hgrow (Nat.le_refl _) (fun k e => by cases e); obtain ⟨w2, hrun, hh, hO⟩ := Kind.run_copy (n := ts.length) (cap := cap) (ty := 3) kE_ok hcur hcl (Nat.le_refl _) HZ.out hB1; have hB2 : Below w.heap.size w w2 := hB1.trans (hO.below (Nat.le_refl _)); have HH := show Hid (_ ∧ _) from And.intro hcl hh; unfold kE at hrun; dsimp only at hrun; clear hown hgrow hcur hh hO hcl)
    go_ret
    have e : cur.drop (ts.length * kE.sz) = [] := List.drop_eq_nil_of_le (by rw [HH.out.1]; exact Nat.le_refl _)
    have hh := HH.out.2
    rw [e, List.append_nil] at hh
    exact ⟨⟨_, rfl, .inr ⟨w.heap.size, rfl, (Array.getElem?_eq_some_iff.1 hh).1, Kind.own_of_heap hh rfl (Nat.le_refl _) (by omega)⟩⟩, hB2⟩
end
section
open Go.RowKit

/-- What a stage lets through. -/
def outS (k a b v : Int) : List Int := if (appSt k a b v).2 = true then [v] else (appSt k a b v).1
theorem outM_S (gs : List PNode) (k : Nat) (v : Int) : outM gs k v = outS (el gs k).2.1 (el gs k).2.2.1 (el gs k).2.2.2.1 v := rfl
/-- A row of ints of its own, or nil, is answered. -/
def AnsJ (w : World) (q : List Int) (e : Ending) (w' : World) : Prop := (∃ go qc, e = .returned (.slice go q.length qc) ∧ (go = none → qc = 0) ∧ kI.Fresh w.heap.size w'.heap.size w' go qc q) ∧ Below w.heap.size w w'
set_option maxHeartbeats 1000000 in
theorem l11Out_is (k a b v : Int) (w : World) (hg : goodSt k a b = true) (hv : valB v = true) :
    Calls Tryz.prog 59 #[.agg #[.int .i64 k, .int .i64 a, .int .i64 b], .int .i64 v] w (AnsJ w (outS k a b v)) := by
  have hB0 := below1 w (.cells #[.int .i64 k, .int .i64 a, .int .i64 b] 32)
  have HA := hid (l7Apply_any k a b v (w.alloc (.cells #[.int .i64 k, .int .i64 a, .int .i64 b] 32)) hg hv)
  unfold outS
  generalize appSt k a b v = r at HA
  obtain ⟨l, f⟩ := r
  dsimp only at HA ⊢
  clear hg hv
  cases f
  · rw [if_neg (by simp)]
    go_enter Tryz.func59, Tryz.ntmps59
    go_wp2_with fail
    refine HA.out.mono ?_
    rintro e w1 ⟨⟨o, c, rfl, hno, hF⟩, hb1⟩
    have hB1 := hB0.trans (hb1.mono hB0.size)
    dsimp only at hF ⊢
    have HF := hid (hF.wide hB0.size (Nat.le_refl _))
    clear hF
    go_wp2
    go_ret
    exact ⟨⟨o, c, rfl, hno, HF.out⟩, hB1⟩
  · rw [if_pos rfl]
    go_enter Tryz.func59, Tryz.ntmps59
    go_wp2_with fail
    refine HA.out.mono ?_
    rintro e w1 ⟨⟨o, c, rfl, hno, hF⟩, hb1⟩
    have hB1 := hB0.trans (hb1.mono hB0.size)
    dsimp only at hF ⊢
    clear hF
    go_wp2
    go_ret
    exact ⟨⟨_, _, rfl, (fun h => by cases h), fresh_one hB1.size⟩, Below.allocS hB1 _⟩
set_option maxHeartbeats 1000000 in
theorem letThrough_is (k a b v : Int) (w : World) (hg : goodSt k a b = true) (hv : valB v = true) :
    Calls Tryz.prog 56 #[.agg #[.int .i64 k, .int .i64 a, .int .i64 b], .int .i64 v] w (AnsJ w (outS k a b v)) := by
  have hB0 := below1 w (.cells #[.int .i64 k, .int .i64 a, .int .i64 b] 32)
  have HA := hid (implApp_any k a b v (w.alloc (.cells #[.int .i64 k, .int .i64 a, .int .i64 b] 32)))
  rw [appR_yes hg hv] at HA
  unfold outS
  generalize appSt k a b v = r at HA
  obtain ⟨l, f⟩ := r
  dsimp only at HA ⊢
  clear hg hv
  cases f
  · rw [if_neg (by simp)]
    go_enter Tryz.func56, Tryz.ntmps56
    go_wp2_with fail
    refine HA.out.mono ?_
    rintro e w1 ⟨⟨o, c, rfl, hno, hF⟩, hb1⟩
    have hB1 := hB0.trans (hb1.mono hB0.size)
    dsimp only at hF ⊢
    have HF := hid (hF.wide hB0.size (Nat.le_refl _))
    clear hF
    go_wp2
    go_ret
    exact ⟨⟨o, c, rfl, hno, HF.out⟩, hB1⟩
  · rw [if_pos rfl]
    go_enter Tryz.func56, Tryz.ntmps56
    go_wp2_with fail
    refine HA.out.mono ?_
    rintro e w1 ⟨⟨o, c, rfl, hno, hF⟩, hb1⟩
    have hB1 := hB0.trans (hb1.mono hB0.size)
    dsimp only at hF ⊢
    clear hF
    go_wp2
    go_ret
    exact ⟨⟨_, _, rfl, (fun h => by cases h), fresh_one hB1.size⟩, Below.allocS hB1 _⟩
/-- What was there and what came to it; or a part of it that is too much already. -/
def Tr (out m r : List (Int × Int)) : Prop := r = out ++ m ∨ (400 < r.length ∧ r.length ≤ out.length + m.length)
theorem Tr.trans {out m1 r1 m2 r2 : List (Int × Int)} (h1 : Tr out m1 r1) (h2 : Tr r1 m2 r2) : Tr out (m1 ++ m2) r2 := by
  rcases h1 with rfl | ⟨h1, h1'⟩
  · rcases h2 with rfl | ⟨h2, h2'⟩
    · exact .inl (by simp)
    · exact .inr ⟨h2, by simp at h2' ⊢; omega⟩
  · rcases h2 with rfl | ⟨h2, h2'⟩
    · exact .inr ⟨by simp; omega, by simp; omega⟩
    · exact .inr ⟨h2, by simp; omega⟩
theorem Tr.refl (out : List (Int × Int)) : Tr out [] out := .inl (by simp)
theorem Tr.stop {out : List (Int × Int)} (h : 400 < out.length) (m : List (Int × Int)) : Tr out m out := .inr ⟨h, by omega⟩
theorem Tr.len {out m r : List (Int × Int)} (h : Tr out m r) : r.length ≤ out.length + m.length := by
  rcases h with rfl | ⟨_, h⟩
  · simp
  · exact h
theorem emits_mk {n : Nat} {W : World} {p : Nat} {x y : Int} (hp : p < n) (h0 : W.cell? ⟨p, 0, none⟩ = some (.int .i64 x)) (h1 : W.cell? ⟨p, 1, none⟩ = some (.int .i64 y)) : kE.In n W (some ⟨p, 0, none⟩) [(x, y)] := by
  refine .inr ⟨p, 0, rfl, hp, fun j hj i hi => ?_⟩
  have hj0 : j = 0 := by simp at hj; exact hj
  subst hj0
  have hi2 : i < 2 := hi
  rcases (show i = 0 ∨ i = 1 from by omega) with rfl | rfl
  · simpa [kE, el] using h0
  · simpa [kE, el] using h1
end
section
open Go.RowKit

/-- How a graph is read. -/
def NV (n : Nat) (W : World) (ao : Option Addr) (gs : List PNode) : Prop := ∀ k, k < gs.length → ∃ b off nxo nxc, ao = some ⟨b, off, none⟩ ∧ b < n ∧ W.cell? ⟨b, off + k * 6 + 5, none⟩ = some (.slice nxo (nxP gs k).length nxc) ∧ kI.In n W nxo (nxP gs k) ∧ W.cell? ⟨b, off + k * 6 + 1, none⟩ = some (.int .i64 (el gs k).2.1) ∧ W.cell? ⟨b, off + k * 6 + 2, none⟩ = some (.int .i64 (el gs k).2.2.1) ∧ W.cell? ⟨b, off + k * 6 + 3, none⟩ = some (.int .i64 (el gs k).2.2.2.1)
theorem nv_of {n : Nat} {W : World} {ao : Option Addr} {ts : List LNode} (hz : DIn dNode n W ao ts) : NV n W ao (ts.map valNode) := fun k hk => by
  rw [val_len] at hk
  obtain ⟨b, off, e, hb, hc⟩ := hNode_at hz.1 hk
  have d := hc k hk
  have hin := hz.2 k hk
  have hev : nxP (ts.map valNode) k = (el ts k).2.2.2.2.2.2.2 := by rw [nxP, el_val hk]; rfl
  rw [hev, el_val hk]
  exact ⟨b, off, _, _, e, hb, d.2.2.2.2.2, hin, d.2.1, d.2.2.1, d.2.2.2.1⟩
theorem NV.below {n : Nat} {W W' : World} {ao : Option Addr} {gs : List PNode} (h : NV n W ao gs) (hb : Below n W W') : NV n W' ao gs := fun k hk => by
  obtain ⟨b, off, nxo, nxc, e, hbn, c5, hi, c1, c2, c3⟩ := h k hk
  refine ⟨b, off, nxo, nxc, e, hbn, (hb.cell (p := ⟨b, _, none⟩) hbn).trans c5, ?_, (hb.cell (p := ⟨b, _, none⟩) hbn).trans c1, (hb.cell (p := ⟨b, _, none⟩) hbn).trans c2, (hb.cell (p := ⟨b, _, none⟩) hbn).trans c3⟩
  rcases hi with h | ⟨b', o', e', hb', hc'⟩
  · exact .inl h
  · exact .inr ⟨b', o', e', hb', fun j hj i hi => (hb.cell (p := ⟨b', _, none⟩) hb').trans (hc' j hj i hi)⟩
/-- A row grew: it stays in its block, or lies in a new one. -/
structure GrM (w w' : World) (v v' : Value) : Prop where
  g : w.grownBy w' v.ownBlock
  n : ∀ b, v'.ownBlock = some b → v.ownBlock = some b ∨ w.heap.size ≤ b
theorem GrM.refl (w : World) (v : Value) : GrM w w v v := ⟨World.grownBy.refl _ _, fun _ h => .inl h⟩
theorem GrM.trans {w w1 w2 : World} {v v1 v2 : Value} (h1 : GrM w w1 v v1) (h2 : GrM w1 w2 v1 v2) : GrM w w2 v v2 := by
  refine ⟨⟨h2.g.os.trans h1.g.os, h2.g.tape.trans h1.g.tape, h2.g.output.trans h1.g.output, Nat.le_trans h1.g.size h2.g.size, fun b hb hn => ?_⟩, fun b hb => ?_⟩
  · have e1 := h1.g.block b hb hn
    refine (h2.g.block b (Nat.lt_of_lt_of_le hb h1.g.size) fun h => ?_).trans e1
    rcases h1.n b h.symm with h | h
    · exact hn h.symm
    · omega
  · rcases h2.n b hb with h | h
    · exact h1.n b h
    · exact .inr (Nat.le_trans h1.g.size h)
theorem GrM.of_below {w w' : World} (h : Below w.heap.size w w') (v : Value) : GrM w w' v v := ⟨⟨h.os, h.tape, h.output, h.size, fun b hb _ => h.block b hb⟩, fun _ h => .inl h⟩
theorem own_ltG {α : Type} {K : Kind α} {lo : Nat} {W : World} {v : Value} {xs : List α} (h : K.Own lo W v xs) {g : Nat} (hg : v.ownBlock = some g) : g < W.heap.size := by
  rcases h.2 with ⟨e, _⟩ | ⟨g', cap', cur, e, hb, hh, r⟩
  · rw [e] at hg; simp [Value.ownBlock] at hg
  · rw [e] at hg
    simp [Value.ownBlock] at hg
    subst hg
    exact (Array.getElem?_eq_some_iff.1 hh).1
theorem own_sliceG {α : Type} {K : Kind α} {lo : Nat} {W : World} {v : Value} {xs : List α} (h : K.Own lo W v xs) : ∃ go qc, v = .slice go xs.length qc := by
  obtain ⟨go, qc, e, _⟩ := h.fresh
  exact ⟨go, qc, e⟩
/-- What comes of one value behind its node. -/
def thenM (gs : List PNode) (k : Nat) (x : Int) : List (Int × Int) := if (nxP gs k).length = 0 then [((k : Int), x)] else (nxP gs k).flatMap fun y => meanG gs y.toNat x
theorem meanG_then {gs : List PNode} {R : List Int} (h : Ordd gs R) (hE : EdgesIn gs) {k : Nat} (hk : k < gs.length) (v : Int) : meanG gs k v = (outM gs k v).flatMap (thenM gs k) := meanG_eq h hE hk v
theorem flat_take {α β : Type} [Inhabited α] (f : α → List β) {l : List α} {m : Nat} (hm : m < l.length) : (l.take (m + 1)).flatMap f = (l.take m).flatMap f ++ f (el l m) := by
  rw [List.take_add_one, List.flatMap_append, List.getElem?_eq_getElem hm, el_at hm]
  simp
theorem flat_le {α β : Type} (f : α → List β) (l : List α) (m : Nat) : ((l.take m).flatMap f).length ≤ (l.flatMap f).length := by
  conv => rhs; rw [← List.take_append_drop m l, List.flatMap_append, List.length_append]
  omega
theorem Tr.over {out m m2 r : List (Int × Int)} (h : Tr out m r) (hr : 400 < r.length) (hm : m.length ≤ m2.length) : Tr out m2 r := .inr ⟨hr, by have := h.len; omega⟩
/-- What l11Mean answers. -/
def AnsM (lo : Nat) (w : World) (val : Value) (out m : List (Int × Int)) (e : Ending) (w' : World) : Prop := ∃ (v' : Value) (r : List (Int × Int)), e = .returned v' ∧ Hid (kE.Own lo w' v' r) ∧ Hid (Tr out m r) ∧ r.length ≤ 401 ∧ Hid (GrM w w' val v')
def MeanC (lo : Nat) (ao : Option Addr) (cap : Nat) (gs : List PNode) (R : List Int) (n : Nat) : Prop := ∀ (k : Nat) (v : Int) (w : World) (val : Value) (out : List (Int × Int)), k < gs.length → rk R k ≤ n → valB v = true → Hid (kE.Own lo w val out) → out.length ≤ 401 → Hid (NV lo w ao gs) → lo ≤ w.heap.size →
    Calls Tryz.prog 29 #[.slice ao gs.length cap, .int .i64 (k : Int), .int .i64 v, val] w (AnsM lo w val out (meanG gs k v))
set_option maxHeartbeats 4000000 in
theorem l11Mean_step (lo : Nat) (ao : Option Addr) (cap : Nat) (gs : List PNode) (R : List Int) (n : Nat) (hR : Ordd gs R) (hE : EdgesIn gs) (hS : GoodSts gs) (ih : MeanC lo ao cap gs R n) : MeanC lo ao cap gs R (n + 1) := by
  intro k v w val out hk hrk hv hO hl hV hlo
  have hgl : gs.length ≤ 10 := hE.many
  have hki : (k : Int) < (gs.length : Int) := by omega
  obtain ⟨b, off, nxo, nxc, rfl, hb, c5, hI, c1, c2, c3⟩ := hV.out k hk
  have HI := hid hI
  have HOUT := hid (l11Out_is (el gs k).2.1 (el gs k).2.2.1 (el gs k).2.2.2.1 v w (hS k hk) hv)
  rw [← outM_S] at HOUT
  have HVB := hid (outM_val (hS k hk) hv)
  have HRN := hid (hR.rk_next hE hk)
  have HM := hid (meanG_then hR hE hk v)
  have HTH : Hid (∀ x, thenM gs k x = if (nxP gs k).length = 0 then [((k : Int), x)] else (nxP gs k).flatMap fun y => meanG gs y.toNat x) := fun x => rfl
  obtain ⟨A, hA⟩ : ∃ A, A = meanG gs k v := ⟨_, rfl⟩
  rw [← hA] at HM ⊢
  clear hA
  have hnl : (nxP gs k).length ≤ 10 := hE.few k hk
  generalize hnx : nxP gs k = nx at c5 HI HRN HTH hnl
  generalize hq : outM gs k v = q at HOUT HVB HM
  have hql : q.length ≤ 3 := by
    have h1 := outM_len (hS k hk) v
    have h2 := (factI_rng (el gs k).2.1 (el gs k).2.2.1 (el gs k).2.2.2.1).2
    rw [hq] at h1
    omega
  generalize (el gs k).2.1 = kd at c1 HOUT
  generalize (el gs k).2.2.1 = sa at c2 HOUT
  generalize (el gs k).2.2.2.1 = sb at c3 HOUT
  have HV := hV
  clear hnx hq hI hv hV
  go_enter Tryz.func29, Tryz.ntmps29
  go_wp2_with fail
  refine HOUT.out.mono ?_
  rintro e w1 ⟨⟨qo, qc, rfl, hno, hF⟩, hb1⟩
  have FQ := hid hF
  have O1 := hid (hO.out.below hb1)
  have HB1 : Hid (Below w.heap.size w w1) := hb1
  have hs1 := hb1.size
  clear hF hb1 HOUT
  dsimp only
  go_wp2
  go_loopw [3, 21] (fun u j wr => ∃ (m : Nat) (r : List (Int × Int)), j = .int .i64 (m : Int) ∧ m ≤ q.length ∧ Hid (kE.Own lo wr u r) ∧ Hid (Tr out ((q.take m).flatMap (thenM gs k)) r) ∧ r.length ≤ 401 ∧ Hid (GrM w1 wr val u)) (fun _ j _ => q.length - (intOf j).toNat)
  case atStart => exact ⟨0, out, rfl, Nat.zero_le _, O1, Tr.refl _, hl, GrM.refl _ _⟩
  case round =>
    rename World => wo
    obtain ⟨m, r, rfl, hm, hO2, hT, hr, hG⟩ := hrel
    have hBl : Below lo w wo := (HB1.out.mono hlo).trans (O1.out.belowG hG.out.g (by omega))
    obtain ⟨go, gc, rfl⟩ := own_sliceG hO2.out
    by_cases hmq : m < q.length
    · have HQ : Hid (kI.In wo.heap.size wo qo q) := in_grown hG.out.g (FQ.out.in) (fun h0 b' off' e h => by
        have h1 := own_ltG hO.out h
        rcases FQ.out with h2 | ⟨g5, e5, _, ho5⟩
        · rw [h2] at h0; simp at h0
        · rw [e] at e5
          simp at e5
          have h3 := (owns_lt ho5).1
          omega)
      obtain ⟨bq, oq, rfl, hbq, hcq⟩ := ints_at HQ.out hmq
      have cm := hcq m hmq
      have HX := hid (HVB.out _ (el_mem hmq))
      have HFT := hid (flat_take (thenM gs k) hmq)
      rw [HTH.out] at HFT
      generalize el q m = x at cm HX HFT
      have hmi : (m : Int) < (q.length : Int) := by omega
      have d5 := (hBl.cell (p := ⟨b, off + k * 6 + 5, none⟩) hb).trans c5
      have HIr := hid ((HV.out.below hBl))
      clear hcq
      by_cases h4 : 400 < r.length
      · have HTT := hid (hT.out.over h4 (flat_le (thenM gs k) q m))
        have h4' : (400 : Int) < (r.length : Int) := by omega
        clear h4
        go_wp2
        go_ret
        exact ⟨_, r, rfl, hO2, (by rw [HM.out]; exact HTT.out), hr, (GrM.of_below HB1.out _).trans hG.out⟩
      · have h4' : ¬ (400 : Int) < (r.length : Int) := by omega
        by_cases h0 : nx.length = 0
        · rw [if_pos h0] at HFT
          have hr4 : r.length + 1 ≤ 401 := by omega
          clear h4
          obtain ⟨V, hVV⟩ : ∃ V, V = wo.alloc (.cells #[.int .i64 (k : Int), .int .i64 x] 84) := ⟨_, rfl⟩
          have HBV : Below wo.heap.size wo V := by rw [hVV]; exact below1 _ _
          have OV := hid (hO2.out.below HBV)
          have HN : Hid (kE.In V.heap.size V (some ⟨wo.heap.size, 0, none⟩) [((k : Int), x)]) := emits_mk (by rw [hVV]; simp) (by rw [hVV]; simp) (by rw [hVV]; simp)
          have HLV : Hid (lo ≤ V.heap.size) := Nat.le_trans (Nat.le_trans hlo hs1) (Nat.le_trans hG.out.g.size HBV.size)
          have HBVh := hid HBV
          have HVV := hid hVV
          clear hVV HBV
          go_wp2_with (at_builtin; rw [← HVV.out]; refine Kind.appN kE_ok V rfl (.tmp 36) (.tmp 40) rfl lo (.slice go r.length gc) r rfl OV.out HLV.out (some ⟨wo.heap.size, 0, none⟩) [((k : Int), x)] 1 1 rfl rfl (by simp) _ HN.out (by simp; omega) ?_; intro v2 w2 hOa hBa hGa hna; have OA := hid hOa; have GA : Hid (GrM w1 w2 val v2) := hG.out.trans ((GrM.of_below HBVh.out _).trans ⟨hGa, hna⟩); obtain ⟨ga, ca, rfl⟩ := own_sliceG hOa; have e5 := (hBa.cell (p := ⟨b, off + k * 6 + 5, none⟩) hb).trans (((HBVh.out.mono (by have := hG.out.g.size; omega)).cell (p := ⟨b, off + k * 6 + 5, none⟩) hb).trans d5); clear hOa hBa hGa hna)
          go_loopw [3, 48] (fun u2 j2 wr2 => u2 = .slice ga (r ++ [((k : Int), x)]).length ca ∧ j2 = .int .i64 0 ∧ wr2 = w2) (fun _ _ _ => 0)
          case atStart => exact ⟨by simp, rfl, rfl⟩
          case round =>
            obtain ⟨rfl, rfl, rfl⟩ := hrel
            go_wp2
            go_roundw
            case rel => exact ⟨m + 1, r ++ [((k : Int), x)], by go_num, by omega, OA, (by rw [HFT.out]; exact hT.out.trans (.inl rfl)), by simp; omega, GA⟩
            case measure => simp [intOf]; omega
        · rw [if_neg h0] at HFT
          have hr4 : r.length ≤ 400 := by omega
          have HIN : Hid (kI.In lo wo nxo nx) := by
            rcases HI.out with h | ⟨b', o', e', hb', hc'⟩
            · exact .inl h
            · exact .inr ⟨b', o', e', hb', fun j hj i hi => (hBl.cell (p := ⟨b', _, none⟩) hb').trans (hc' j hj i hi)⟩
          have hslo : lo ≤ wo.heap.size := Nat.le_trans hlo (Nat.le_trans hs1 hG.out.g.size)
          clear h4
          go_wp2
          go_loopw [3, 48] (fun u2 j2 wr2 => ∃ (m2 : Nat) (r2 : List (Int × Int)), j2 = .int .i64 (m2 : Int) ∧ m2 ≤ nx.length ∧ Hid (kE.Own lo wr2 u2 r2) ∧ Hid (Tr r ((nx.take m2).flatMap fun y => meanG gs y.toNat x) r2) ∧ r2.length ≤ 401 ∧ Hid (GrM wo wr2 (.slice go r.length gc) u2)) (fun _ j2 _ => nx.length - (intOf j2).toNat)
          case atStart => exact ⟨0, r, rfl, Nat.zero_le _, hO2, Tr.refl _, hr, GrM.refl _ _⟩
          case round =>
            obtain ⟨m2, r2, rfl, hm2, hO3, hT3, hr3, hG3⟩ := hrel
            have hB3 : Below lo wo wr := hO2.out.belowG hG3.out.g hslo
            by_cases hmn : m2 < nx.length
            · obtain ⟨nb, noff, rfl, hnb, hnc⟩ := ints_at HIN.out hmn
              have cn := (hB3.cell (p := ⟨nb, noff + m2, none⟩) hnb).trans (hnc m2 hmn)
              have HFM := hid (flat_take (fun y => meanG gs y.toNat x) hmn)
              obtain ⟨j, hj, hyj, hrj⟩ := HRN.out (el nx m2) (el_mem hmn)
              rw [hyj] at cn HFM
              rw [Int.toNat_natCast] at HFM
              have hmn' : (m2 : Int) < (nx.length : Int) := by omega
              have HC := hid (ih j x wr _ r2 hj (by omega) HX.out hO3 hr3 (HIr.out.below hB3) (Nat.le_trans hslo hB3.size))
              clear hnc hyj
              go_wp2_with fail
              refine HC.out.mono ?_
              rintro e w5 ⟨v5, r5, rfl, hO5, hT5, hr5, hG5⟩
              dsimp only
              go_wp2
              go_roundw
              case rel => exact ⟨m2 + 1, r5, by go_num, by omega, hO5, (by rw [HFM.out]; exact hT3.out.trans hT5.out), hr5, hG3.out.trans hG5.out⟩
              case measure => simp [intOf]; omega
            · obtain rfl : m2 = nx.length := by omega
              rw [List.take_length] at hT3
              clear hmn
              go_wp2
              go_roundw
              case rel => exact ⟨m + 1, r2, by go_num, by omega, hO3, (by rw [HFT.out]; exact hT.out.trans hT3.out), hr3, hG.out.trans hG3.out⟩
              case measure => simp [intOf]; omega
    · obtain rfl : m = q.length := by omega
      have HTT := hT
      rw [List.take_length, ← HM.out] at HTT
      clear hmq
      go_wp2
      go_ret
      exact ⟨_, r, rfl, hO2, HTT.out, hr, (GrM.of_below HB1.out _).trans hG.out⟩
theorem l11Mean_all (lo : Nat) (ao : Option Addr) (cap : Nat) (gs : List PNode) (R : List Int) (hR : Ordd gs R) (hE : EdgesIn gs) (hS : GoodSts gs) : ∀ n, MeanC lo ao cap gs R n
  | 0 => fun k v w val out hk hrk _ _ _ _ _ => by have := hR.rk_pos hk; omega
  | n + 1 => l11Mean_step lo ao cap gs R n hR hE hS (l11Mean_all lo ao cap gs R hR hE hS n)
/-- What a value means, from nothing on. -/
theorem l11Mean_is (ao : Option Addr) (cap : Nat) (ts : List LNode) (R : List Int) (hR : Ordd (ts.map valNode) R) (hE : EdgesIn (ts.map valNode)) (hS : GoodSts (ts.map valNode)) (k : Nat) (v : Int) (w : World) (hk : k < ts.length) (hv : valB v = true) (hz : DIn dNode w.heap.size w ao ts) :
    Calls Tryz.prog 29 #[.slice ao ts.length cap, .int .i64 (k : Int), .int .i64 v, .slice none 0 0] w fun e w' => ∃ go gc r, e = .returned (.slice go r.length gc) ∧ (go = none → gc = 0) ∧ kE.Fresh w.heap.size w'.heap.size w' go gc r ∧ Tr [] (meanG (ts.map valNode) k v) r ∧ r.length ≤ 401 ∧ Below w.heap.size w w' := by
  have h := l11Mean_all w.heap.size ao cap (ts.map valNode) R hR hE hS _ k v w (.slice none 0 0) [] (by rw [val_len]; exact hk) (Nat.le_refl _) hv (Kind.Own.nil _ _ _) (by simp) (nv_of hz) (Nat.le_refl _)
  rw [val_len] at h
  refine h.mono ?_
  rintro e w' ⟨v', r, rfl, hO, hT, hl, hG⟩
  obtain ⟨go, gc, rfl, hno, hF⟩ := hO.out.fresh
  exact ⟨go, gc, r, rfl, hno, hF, hT.out, hl, ⟨hG.out.g.os, hG.out.g.tape, hG.out.g.output, hG.out.g.size, fun b hb => hG.out.g.block b hb (by simp [Value.ownBlock])⟩⟩
end
end Go.Proofs.YtebnapgcobcilaaGreatDoor
