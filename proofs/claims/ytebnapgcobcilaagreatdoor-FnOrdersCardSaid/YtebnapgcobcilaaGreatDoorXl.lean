
/- A drawn graph. No conditions but those written. -/
import Derived.Test.YtebnapgcobcilaaGreatDoorPOrTr3
import Derived.Deep.Cut
import Derived.Deep.DeepCutAuto
import Derived.Deep.RegionLaw
namespace Go.Proofs.YtebnapgcobcilaaGreatDoor
open Go.RowKit

/-- Few nodes with short names and rows. -/
def LG (m : Nat) (us : List LNode) : Prop := us.length = m ∧ ∀ a ∈ us, a.1.size ≤ 2 ∧ a.2.2.2.2.2.2.2.length ≤ 11
theorem lg_nil : LG 0 [] := ⟨rfl, fun a ha => by simp at ha⟩
theorem LG.snoc {m : Nat} {us : List LNode} (h : LG m us) {x : LNode} (h1 : x.1.size ≤ 2) (h2 : x.2.2.2.2.2.2.2.length ≤ 11) : LG (m + 1) (us ++ [x]) :=
  ⟨by simp [h.1], fun a ha => by rcases List.mem_append.1 ha with ha | ha; exact h.2 a ha; simp at ha; subst ha; exact ⟨h1, h2⟩⟩
def FitS (us : List LNode) : Prop := us.length ≤ 11 ∧ ∀ a ∈ us, a.1.size ≤ 2 ∧ a.2.2.2.2.2.2.2.length ≤ 22
theorem LG.fit {m : Nat} {us : List LNode} (h : LG m us) (hm : m ≤ 11) : FitS us := ⟨by have := h.1; omega, fun a ha => ⟨(h.2 a ha).1, by have := (h.2 a ha).2; omega⟩⟩
theorem LG.set {m : Nat} {us : List LNode} (h : LG m us) (hm : m ≤ 11) {k : Nat} {x : LNode} (h1 : x.1.size ≤ 2) (h2 : x.2.2.2.2.2.2.2.length ≤ 22) : FitS (us.set k x) :=
  ⟨by have := h.1; simp; omega, fun a ha => by rcases List.mem_or_eq_of_mem_set ha with ha | ha; exact ⟨(h.2 a ha).1, by have := (h.2 a ha).2; omega⟩; subst ha; exact ⟨h1, h2⟩⟩
set_option maxRecDepth 10000 in
set_option maxHeartbeats 64000000 in
theorem graph_any (p : Nat) (co : Option Addr) (cap : Nat) (bs : List Int) (k : Nat) (sd : Int) (w : World) (hl : bs.length ≤ 9223372036854775807) (ha : k ≤ 500000000) (hC : Cur w p co cap bs k sd) :
    Calls Tryz.prog 13 #[.pointer (some ⟨p, 0, none⟩)] w fun e w' => (∃ (o : Option Addr) (c : Nat) (us : List LNode), e = .returned (.slice o us.length c) ∧ FitS us ∧ GD w.heap.size w'.heap.size w' o c us) ∧ DrawnG w p co cap bs k 2000 w' := by
  have hp := hC.1
  have C0 := hid hC
  have hR0 := Grew.refl p w
  have hz0 : w.heap.size ≤ w.heap.size := Nat.le_refl _
  clear hC
  go_enter Tryz.func13, Tryz.ntmps13
  go_wp2_with fail
  refine (pick_any 5 p co cap bs k sd w hl (by omega) C0.out).mono ?_
  rintro e w1 ⟨⟨n0, rfl, h0n0, h1n0⟩, hD⟩
  obtain ⟨k1, sd1, hk1, hC1, hg1, hsz1⟩ := hD.grew
  have C1 := hid hC1
  have hR1 : Grew p w w1 := hR0.trans hg1
  have hz1 : w.heap.size ≤ w1.heap.size := hg1.size
  clear C0 hD hg1 hC1 hsz1
  obtain ⟨m0, rfl⟩ : ∃ m : Nat, n0 = m := ⟨n0.toNat, by omega⟩
  have hm0 : m0 ≤ 4 := by omega
  clear h0n0 h1n0
  go_wp2_with fail
  refine (one_any 30 p co cap bs k1 sd1 w1 hl (by omega) C1.out).mono ?_
  rintro e w2 ⟨⟨b2, rfl⟩, hD⟩
  obtain ⟨k2, sd2, hk2, hC2, hg2, hsz2⟩ := hD.grew
  have C2 := hid hC2
  have hR2 : Grew p w w2 := hR1.trans hg2
  have hz2 : w1.heap.size ≤ w2.heap.size := hg2.size
  clear C1 hD hg2 hC2 hsz2
  go_upto_if 13 with fail
  go_cut [4] (fun s4 wx => ∃ (m k2 : Nat) (sd2 : Int), s4 = .int .i64 (m : Int) ∧ 1 ≤ m ∧ m ≤ 11 ∧ k2 ≤ k + 20 ∧ Hid (Cur wx p co cap bs k2 sd2) ∧ Grew p w wx)
  case first =>
    cases b2
    · go_wp2_with fail
      go_meet
      exact ⟨m0 + 1, k2, sd2, by go_num, by omega, by omega, by omega, C2, hR2⟩
    · go_wp2_with fail
      refine (pick_any 2 p co cap bs k2 sd2 w2 hl (by omega) C2.out).mono ?_
      rintro e w3 ⟨⟨n1, rfl, h0n1, h1n1⟩, hD⟩
      obtain ⟨k3, sd3, hk3, hC3, hg3, hsz3⟩ := hD.grew
      have C3 := hid hC3
      have hR3 : Grew p w w3 := hR2.trans hg3
      have hz3 : w2.heap.size ≤ w3.heap.size := hg3.size
      clear C2 hD hg3 hC3 hsz3
      obtain ⟨m1, rfl⟩ : ∃ m : Nat, n1 = m := ⟨n1.toNat, by omega⟩
      go_wp2_with fail
      go_meet
      exact ⟨10 + m1, k3, sd3, by go_num, by omega, by omega, by omega, C3, hR3⟩
  case rest =>
    clear hm0 C2 hR2
    obtain ⟨m, kk, sdd, rfl, hm1, hm, hkk, Ca, hRa⟩ := hcut
    go_wp2
    go_loopw [3, 5] (fun v i wr => ∃ (j k2 : Nat) (sd2 : Int) (o : Option Addr) (c : Nat) (us : List LNode), v = .slice o us.length c ∧ i = .int .i64 (j : Int) ∧ j ≤ m ∧ Hid (LG j us) ∧ k2 ≤ k + 20 + j * 150 ∧ Hid (GO w.heap.size wr.heap.size wr o c us) ∧ Hid (Cur wr p co cap bs k2 sd2) ∧ Grew p w wr) (fun _ i _ => m - (intOf i).toNat)
    case atStart => exact ⟨0, kk, sdd, none, 0, [], rfl, rfl, by omega, hid lg_nil, by omega, hid (go_nil.wide (Nat.le_refl _) (Nat.le_refl _)), Ca, hRa⟩
    case round =>
      clear Ca hRa
      obtain ⟨j, k1, sd1, o, c, us, rfl, rfl, hj, HLG, hk1, D3, C3, hR3⟩ := hrel
      have hz3 : w.heap.size ≤ wr.heap.size := hR3.size
      have hul : us.length ≤ 11 := by have := HLG.out.1; omega
      by_cases hjm : j < m
      · have hm1 : decide ((j : Int) < (m : Int)) = true := by simp <;> omega
        go_wp2_with fail
        refine (stage_any p co cap bs k1 sd1 wr hl (by omega) C3.out).mono ?_
        rintro e w4 ⟨⟨x1, x2, x3, rfl⟩, k4, sd4, hk4, hC4, hg4⟩
        have D4 := hid (D3.out.grew hg4 (by omega))
        have C4 := hid hC4
        have hR4 : Grew p w w4 := hR3.trans hg4
        have hz4 : wr.heap.size ≤ w4.heap.size := hg4.size
        clear D3 C3 hg4 hC4
        obtain ⟨w5, hV⟩ : ∃ V, V = w4.alloc (.cells #[.int .i64 x1, .int .i64 x2, .int .i64 x3] 32) := ⟨_, rfl⟩
        have D5 := hid (D4.out.later (below1 w4 (.cells #[.int .i64 x1, .int .i64 x2, .int .i64 x3] 32)))
        rw [← hV] at D5
        have C5 := hid (C4.out.later (below1 w4 (.cells #[.int .i64 x1, .int .i64 x2, .int .i64 x3] 32)))
        rw [← hV] at C5
        have hR5 : Grew p w w5 := by rw [hV]; exact hR4.trans (Grew.alloc p _ _)
        have hz5 : w4.heap.size ≤ w5.heap.size := by rw [hV]; simp
        have H5 := hid hV
        clear hV D4 C4
        have XT5 : Hid (Bx w5 w4.heap.size [.int .i64 x1, .int .i64 x2, .int .i64 x3]) := by rw [H5.out]; exact Bx.new [.int .i64 x1, .int .i64 x2, .int .i64 x3] _ rfl
        have hy5 : w4.heap.size < w5.heap.size := XT5.out.size
        obtain ⟨ad, hs0⟩ : ∃ ad, ad = w4.heap.size := ⟨_, rfl⟩
        have t0 := XT5.out.c 0 rfl
        have tf0 := XT5.out.f 0 rfl
        have t1 := XT5.out.c 1 rfl
        have tf1 := XT5.out.f 1 rfl
        have t2 := XT5.out.c 2 rfl
        have tf2 := XT5.out.f 2 rfl
        have tz := XT5.out.size
        go_upto_region 9 with fail
        clear t0 tf0 t1 tf1 t2 tf2 tz
        rw [← H5.out]
        clear H5
        rw [← hs0] at XT5
        rw [← hs0]
        have hs1 : wr.heap.size ≤ ad ∧ ad < w5.heap.size := by omega
        clear hs0
        go_cut [31] (fun s31 wx => ∃ (bb : Bool) (y1 y2 y3 : Int) (k2 : Nat) (sd2 : Int), s31 = .bool bb ∧ k2 ≤ k1 + 30 ∧ ad < wx.heap.size ∧ Hid (Bx wx ad [.int .i64 y1, .int .i64 y2, .int .i64 y3]) ∧ Hid (GO w.heap.size wr.heap.size wx o c us) ∧ Hid (Cur wx p co cap bs k2 sd2) ∧ Grew p w wx)
        case first =>
          cases hgs : goodSt x1 x2 x3
          · have HG := hid hgs
            clear hgs
            have t0 := XT5.out.c 0 rfl
            have tf0 := XT5.out.f 0 rfl
            have t1 := XT5.out.c 1 rfl
            have tf1 := XT5.out.f 1 rfl
            have t2 := XT5.out.c 2 rfl
            have tf2 := XT5.out.f 2 rfl
            have tz := XT5.out.size
            go_wp2_with fail
            clear t0 tf0 t1 tf1 t2 tf2 tz
            refine (specGood_is x1 x2 x3 _ false HG.out).mono ?_
            rintro e w6 ⟨rfl, hw6⟩
            have hb6 : Below w5.heap.size w5 w6 := by rw [hw6]; exact below1 _ _
            have XT6 := hid (XT5.out.later hb6)
            have D6 := hid (D5.out.later hb6)
            have C6 := hid (C5.out.later hb6)
            have hR6 : Grew p w w6 := hR5.trans (Grew.of_below hb6)
            have hz6 : w5.heap.size ≤ w6.heap.size := hb6.size
            clear XT5 D5 C5 hw6 hb6
            have t0 := XT6.out.c 0 rfl
            have tf0 := XT6.out.f 0 rfl
            have t1 := XT6.out.c 1 rfl
            have tf1 := XT6.out.f 1 rfl
            have t2 := XT6.out.c 2 rfl
            have tf2 := XT6.out.f 2 rfl
            have tz := XT6.out.size
            go_wp2_with fail
            clear t0 tf0 t1 tf1 t2 tf2 tz
            refine (one_any 4 p co cap bs k4 sd4 w6 hl (by omega) C6.out).mono ?_
            rintro e w7 ⟨⟨b4, rfl⟩, hD⟩
            obtain ⟨k7, sd7, hk7, hC7, hg7, hsz7⟩ := hD.grew
            have XT7 := hid (XT6.out.grew hg7 (by omega))
            have D7 := hid (D6.out.grew hg7 (by omega))
            have C7 := hid hC7
            have hR7 : Grew p w w7 := hR6.trans hg7
            have hz7 : w6.heap.size ≤ w7.heap.size := hg7.size
            clear XT6 D6 C6 hD hg7 hC7 hsz7
            have t0 := XT7.out.c 0 rfl
            have tf0 := XT7.out.f 0 rfl
            have t1 := XT7.out.c 1 rfl
            have tf1 := XT7.out.f 1 rfl
            have t2 := XT7.out.c 2 rfl
            have tf2 := XT7.out.f 2 rfl
            have tz := XT7.out.size
            go_wp2
            clear t0 tf0 t1 tf1 t2 tf2 tz
            go_meet
            exact ⟨!b4, x1, x2, x3, k7, sd7, rfl, by omega, by have := XT7.out.size; omega, XT7, D7, C7, hR7⟩
          · have HG := hid hgs
            clear hgs
            have t0 := XT5.out.c 0 rfl
            have tf0 := XT5.out.f 0 rfl
            have t1 := XT5.out.c 1 rfl
            have tf1 := XT5.out.f 1 rfl
            have t2 := XT5.out.c 2 rfl
            have tf2 := XT5.out.f 2 rfl
            have tz := XT5.out.size
            go_wp2_with fail
            clear t0 tf0 t1 tf1 t2 tf2 tz
            refine (specGood_is x1 x2 x3 _ true HG.out).mono ?_
            rintro e w6 ⟨rfl, hw6⟩
            have hb6 : Below w5.heap.size w5 w6 := by rw [hw6]; exact below1 _ _
            have XT6 := hid (XT5.out.later hb6)
            have D6 := hid (D5.out.later hb6)
            have C6 := hid (C5.out.later hb6)
            have hR6 : Grew p w w6 := hR5.trans (Grew.of_below hb6)
            have hz6 : w5.heap.size ≤ w6.heap.size := hb6.size
            clear XT5 D5 C5 hw6 hb6
            have t0 := XT6.out.c 0 rfl
            have tf0 := XT6.out.f 0 rfl
            have t1 := XT6.out.c 1 rfl
            have tf1 := XT6.out.f 1 rfl
            have t2 := XT6.out.c 2 rfl
            have tf2 := XT6.out.f 2 rfl
            have tz := XT6.out.size
            go_wp2
            clear t0 tf0 t1 tf1 t2 tf2 tz
            go_meet
            exact ⟨false, x1, x2, x3, k4, sd4, rfl, by omega, by have := XT6.out.size; omega, XT6, D6, C6, hR6⟩
        case rest =>
          clear XT5 D5 C5 hR5 hz5
          obtain ⟨bb, y1, y2, y3, k2, sd2, rfl, hk2, hsz2, XT25, D25, C25, hR25⟩ := hcut
          have hz25 : wr.heap.size ≤ wc.heap.size := by omega
          have t0 := XT25.out.c 0 rfl
          have tf0 := XT25.out.f 0 rfl
          have t1 := XT25.out.c 1 rfl
          have tf1 := XT25.out.f 1 rfl
          have t2 := XT25.out.c 2 rfl
          have tf2 := XT25.out.f 2 rfl
          have tz := XT25.out.size
          go_upto_if 31 with fail
          clear t0 tf0 t1 tf1 t2 tf2 tz
          go_cut [5] (fun s5 wx => ∃ (y1 y2 y3 : Int), s5 = .int .i64 (j : Int) ∧ k2 ≤ k1 + 30 ∧ ad < wx.heap.size ∧ Hid (Bx wx ad [.int .i64 y1, .int .i64 y2, .int .i64 y3]) ∧ Hid (GO w.heap.size wr.heap.size wx o c us) ∧ Hid (Cur wx p co cap bs k2 sd2) ∧ Grew p w wx)
          case first =>
            cases bb
            · have t0 := XT25.out.c 0 rfl
              have tf0 := XT25.out.f 0 rfl
              have t1 := XT25.out.c 1 rfl
              have tf1 := XT25.out.f 1 rfl
              have t2 := XT25.out.c 2 rfl
              have tf2 := XT25.out.f 2 rfl
              have tz := XT25.out.size
              go_wp2_with fail
              clear t0 tf0 t1 tf1 t2 tf2 tz
              go_meet
              exact ⟨y1, y2, y3, rfl, by omega, by omega, XT25, D25, C25, hR25⟩
            · have t0 := XT25.out.c 0 rfl
              have tf0 := XT25.out.f 0 rfl
              have t1 := XT25.out.c 1 rfl
              have tf1 := XT25.out.f 1 rfl
              have t2 := XT25.out.c 2 rfl
              have tf2 := XT25.out.f 2 rfl
              have tz := XT25.out.size
              obtain ⟨w26, hV⟩ : ∃ V, V = (((wc.setCell ⟨ad, 0, none⟩ (.int .i64 1)).setCell ⟨ad, 1, none⟩ (.int .i64 1)).setCell ⟨ad, 2, none⟩ (.int .i64 0)) := ⟨_, rfl⟩
              have XT26 := hid ((((XT25.out.set 0 (.int .i64 1)).set 1 (.int .i64 1)).set 2 (.int .i64 0)))
              rw [← hV] at XT26
              have D26 := hid ((((D25.out.setOff (a := ⟨ad, 0, none⟩) (by dsimp only; omega) (.int .i64 1)).setOff (a := ⟨ad, 1, none⟩) (by dsimp only; omega) (.int .i64 1)).setOff (a := ⟨ad, 2, none⟩) (by dsimp only; omega) (.int .i64 0)))
              rw [← hV] at D26
              have C26 := hid ((((C25.out.other (a := ⟨ad, 0, none⟩) (by dsimp only; omega) (.int .i64 1)).other (a := ⟨ad, 1, none⟩) (by dsimp only; omega) (.int .i64 1)).other (a := ⟨ad, 2, none⟩) (by dsimp only; omega) (.int .i64 0)))
              rw [← hV] at C26
              have hR26 : Grew p w w26 := by rw [hV]; exact (((hR25.set (a := ⟨ad, 0, none⟩) (by dsimp only; omega) (.int .i64 1)).set (a := ⟨ad, 1, none⟩) (by dsimp only; omega) (.int .i64 1)).set (a := ⟨ad, 2, none⟩) (by dsimp only; omega) (.int .i64 0))
              have hz26 : wc.heap.size ≤ w26.heap.size := by rw [hV]; simp
              have H26 := hid hV
              clear hV XT25 D25 C25
              go_wp2_with fail
              clear t0 tf0 t1 tf1 t2 tf2 tz
              rw [← H26.out]
              clear H26
              go_meet
              exact ⟨1, 1, 0, rfl, by omega, by omega, XT26, D26, C26, hR26⟩
          case rest =>
            clear XT25 D25 C25 hR25 hz25 hk2 hsz2
            obtain ⟨z1, z2, z3, rfl, hk2, hsz2, XT45, D45, C45, hR45⟩ := hcut
            rename World => wd
            have hz45 : wr.heap.size ≤ wd.heap.size := by omega
            have t0 := XT45.out.c 0 rfl
            have tf0 := XT45.out.f 0 rfl
            have t1 := XT45.out.c 1 rfl
            have tf1 := XT45.out.f 1 rfl
            have t2 := XT45.out.c 2 rfl
            have tf2 := XT45.out.f 2 rfl
            have tz := XT45.out.size
            go_upto_region 11 with fail
            go_cut [7] (fun s7 wx => ∃ (xp : Nat) (nm : ByteArray) (kd sa sb cp : Int) (k3 : Nat) (sd3 : Int), s7 = .pointer (some ⟨xp, 0, none⟩) ∧ nm.size ≤ 2 ∧ k3 ≤ k1 + 40 ∧ wr.heap.size ≤ xp ∧ xp < wx.heap.size ∧ Hid (Bx wx xp [.string nm, .int .i64 kd, .int .i64 sa, .int .i64 sb, .int .i64 cp, .slice none 0 0]) ∧ Hid (GO w.heap.size wr.heap.size wx o c us) ∧ Hid (Cur wx p co cap bs k3 sd3) ∧ Grew p w wx)
            case first =>
              have ad0 := XT45.out.size
              refine wp_walks (zl := [11]) (S := fun Y => Y.cell? ⟨ad, 0, none⟩ = some (.int .i64 z1) ∧ Y.cell? ⟨ad, 1, none⟩ = some (.int .i64 z2) ∧ Y.cell? ⟨ad, 2, none⟩ = some (.int .i64 z3)) (by kernel_rfl) ⟨XT45.out.c 0 rfl, XT45.out.c 1 rfl, XT45.out.c 2 rfl⟩ (fun hH => ?_)
              refine Walks.take (i := 0) (v := ?vz1) rfl (by kernel_rfl) (by kernel_rfl) (fun _ _ _ h => h) _ _ _ _ (by kernel_rfl) (by kernel_rfl) (Or.inl ⟨by rfl, ?hyz1⟩) hH ?restz1
              case hyz1 => (intro w' hSw; (try dsimp only at hSw); go_simp <;> with_reducible rfl)
              refine Walks.take (i := 1) (v := ?vz2) rfl (by kernel_rfl) (by kernel_rfl) (fun _ _ _ h => h) _ _ _ _ (by kernel_rfl) (by kernel_rfl) (Or.inl ⟨by rfl, ?hyz2⟩) hH ?restz2
              case hyz2 => (intro w' hSw; (try dsimp only at hSw); go_simp <;> with_reducible rfl)
              refine Walks.take (i := 2) (v := ?vz3) rfl (by kernel_rfl) (by kernel_rfl) (fun _ _ _ h => h) _ _ _ _ (by kernel_rfl) (by kernel_rfl) (Or.inl ⟨by rfl, ?hyz3⟩) hH ?restz3
              case hyz3 => (intro w' hSw; (try dsimp only at hSw); go_simp <;> with_reducible rfl)
              refine Walks.take (i := 5) (v := ?vz4) rfl (by kernel_rfl) (by kernel_rfl) (fun _ _ _ h => h) _ _ _ _ (by kernel_rfl) (by kernel_rfl) (Or.inl ⟨by rfl, ?hyz4⟩) hH ?restz4
              case hyz4 => (intro w' hSw; (try dsimp only at hSw); go_simp <;> with_reducible rfl)
              refine Walks.take (i := 6) (v := ?vz5) rfl (by kernel_rfl) (by kernel_rfl) (fun _ _ _ h => h) _ _ _ _ (by kernel_rfl) (by kernel_rfl) (Or.inl ⟨by rfl, ?hyz5⟩) hH ?restz5
              case hyz5 => (intro w' hSw; (try dsimp only at hSw); go_simp <;> with_reducible rfl)
              clear hH
              refine Walks.trio (i := 3) (j := 7) (l := 10) (by kernel_rfl) rfl rfl rfl (fun K hK => ?_) (fun K hK => ?_) (fun K hK => ?_)
              · go_simp
                obtain ⟨w46, hV⟩ : ∃ V, V = (wd.alloc (.cells #[.int .u8 110, .int .u8 (IntKind.u8.wrap (IntKind.i64.wrap (97 + (j : Int))))] 5)).drew := ⟨_, rfl⟩
                rw [← hV]
                have XT46 : Hid (Bx w46 ad [.int .i64 z1, .int .i64 z2, .int .i64 z3]) := by rw [hV]; exact XT45.out.alloc (.cells #[.int .u8 110, .int .u8 (IntKind.u8.wrap (IntKind.i64.wrap (97 + (j : Int))))] 5)
                have D46 : Hid (GO w.heap.size wr.heap.size w46 o c us) := by rw [hV]; exact D45.out.later (below1 wd (.cells #[.int .u8 110, .int .u8 (IntKind.u8.wrap (IntKind.i64.wrap (97 + (j : Int))))] 5)).drew
                have C46 : Hid (Cur w46 p co cap bs k2 sd2) := by rw [hV]; exact C45.out.later (below1 wd (.cells #[.int .u8 110, .int .u8 (IntKind.u8.wrap (IntKind.i64.wrap (97 + (j : Int))))] 5)).drew
                have hR46 : Grew p w w46 := by rw [hV]; exact (hR45.trans (Grew.alloc p _ _)).drew
                have hz46 : wd.heap.size + 1 = w46.heap.size := by rw [hV]; simp
                have XB46 : Hid (Bx w46 wd.heap.size [.int .u8 110, .int .u8 (IntKind.u8.wrap (IntKind.i64.wrap (97 + (j : Int))))]) := by rw [hV]; exact Bx.new [.int .u8 110, .int .u8 (IntKind.u8.wrap (IntKind.i64.wrap (97 + (j : Int))))] _ rfl
                clear hV
                obtain ⟨bq, hq46⟩ : ∃ q, q = wd.heap.size := ⟨_, rfl⟩
                rw [← hq46] at XB46 ⊢
                have hb46 : wd.heap.size ≤ bq ∧ bq + 1 = w46.heap.size := by omega
                clear hq46 hz46
                refine hK.out _ _ (fun _ => ⟨XT46.out.c 0 rfl, XT46.out.c 1 rfl, XT46.out.c 2 rfl⟩) (fun _ => ?_)
                clear hK K XT45 D45 C45 hR45 
                refine Walks.weaken (S' := fun Y => (Y.cell? ⟨ad, 0, none⟩ = some (.int .i64 z1) ∧ Y.cell? ⟨ad, 1, none⟩ = some (.int .i64 z2) ∧ Y.cell? ⟨ad, 2, none⟩ = some (.int .i64 z3)) ∧ Y.cell? ⟨bq, 0, none⟩ = some (.int .u8 110) ∧ Y.cell? ⟨bq, 1, none⟩ = some (.int .u8 (IntKind.u8.wrap (IntKind.i64.wrap (97 + (j : Int)))))) (fun _ h => h.1) ?_
                refine Walks.take (i := 4) (v := ?vz6) rfl (by kernel_rfl) (by kernel_rfl) (fun _ _ _ h => h) _ _ _ _ (by kernel_rfl) (by kernel_rfl) (Or.inl ⟨by rfl, ?hyz6⟩) ⟨⟨XT46.out.c 0 rfl, XT46.out.c 1 rfl, XT46.out.c 2 rfl⟩, XB46.out.c 0 rfl, XB46.out.c 1 rfl⟩ ?restz6
                case hyz6 => (intro w' hSw; (have hcv := conv_two _ _ w' bq hSw.2.1 hSw.2.2); (try dsimp only at hSw); go_simp <;> with_reducible rfl)
                refine Walks.pair (i := 7) (j := 10) (by kernel_rfl) rfl rfl (fun K hK => ?_) (fun K hK => ?_)
                · go_simp
                  refine (pick_any 6 p co cap bs k2 sd2 w46 hl (by omega) C46.out).mono ?_
                  rintro e w47 ⟨⟨y, rfl, h0y, h1y⟩, hD⟩
                  obtain ⟨k47, sd47, hk47, hC47, hg0, hsz47⟩ := hD.grew
                  have hg : Grew p w46 w47 := hg0
                  have XT47 := hid (XT46.out.grew hg (by omega))
                  have XB47 := hid (XB46.out.grew hg (by omega))
                  have D47 := hid (D46.out.grew hg (by omega))
                  have C47 := hid hC47
                  have hR47 : Grew p w w47 := hR46.trans hg
                  have hb47 : w46.heap.size ≤ w47.heap.size := hg.size
                  clear hD hC47 hg0 hg hsz47
                  refine hK.out _ _ (fun _ => ⟨⟨XT47.out.c 0 rfl, XT47.out.c 1 rfl, XT47.out.c 2 rfl⟩, XB47.out.c 0 rfl, XB47.out.c 1 rfl⟩) (fun _ => ?_)
                  clear hK K XT46 D46 C46 hR46 XB46
                  refine Walks.take (i := 8) (v := ?vz7) rfl (by kernel_rfl) (by kernel_rfl) (fun _ _ _ h => h) _ _ _ _ (by kernel_rfl) (by kernel_rfl) (Or.inl ⟨by rfl, ?hyz7⟩) ⟨⟨XT47.out.c 0 rfl, XT47.out.c 1 rfl, XT47.out.c 2 rfl⟩, XB47.out.c 0 rfl, XB47.out.c 1 rfl⟩ ?restz7
                  case hyz7 => (intro w' hSw; (try dsimp only at hSw); go_simp <;> with_reducible rfl)
                  refine Walks.take (i := 9) (v := ?vz8) rfl (by kernel_rfl) (by kernel_rfl) (fun _ _ _ h => h) _ _ _ _ (by kernel_rfl) (by kernel_rfl) (Or.inl ⟨by rfl, ?hyz8⟩) ⟨⟨XT47.out.c 0 rfl, XT47.out.c 1 rfl, XT47.out.c 2 rfl⟩, XB47.out.c 0 rfl, XB47.out.c 1 rfl⟩ ?restz8
                  case hyz8 => (intro w' hSw; (try dsimp only at hSw); go_simp <;> with_reducible rfl)
                  refine Walks.one (i := 10) (o := _) (by kernel_rfl) rfl (fun K hK => ?_)
                  · go_simp
                    obtain ⟨w48, hV⟩ : ∃ V, V = (w47.alloc (.cells #[.string ⟨#[]⟩, .int .i64 0, .int .i64 0, .int .i64 0, .int .i64 0, .slice none 0 0] 34)) := ⟨_, rfl⟩
                    rw [← hV]
                    have XT48 : Hid (Bx w48 ad [.int .i64 z1, .int .i64 z2, .int .i64 z3]) := by rw [hV]; exact XT47.out.alloc (.cells #[.string ⟨#[]⟩, .int .i64 0, .int .i64 0, .int .i64 0, .int .i64 0, .slice none 0 0] 34)
                    have D48 : Hid (GO w.heap.size wr.heap.size w48 o c us) := by rw [hV]; exact D47.out.later (below1 w47 (.cells #[.string ⟨#[]⟩, .int .i64 0, .int .i64 0, .int .i64 0, .int .i64 0, .slice none 0 0] 34))
                    have C48 : Hid (Cur w48 p co cap bs k47 sd47) := by rw [hV]; exact C47.out.later (below1 w47 (.cells #[.string ⟨#[]⟩, .int .i64 0, .int .i64 0, .int .i64 0, .int .i64 0, .slice none 0 0] 34))
                    have hR48 : Grew p w w48 := by rw [hV]; exact (hR47.trans (Grew.alloc p _ _))
                    have XB48 : Hid (Bx w48 bq [.int .u8 110, .int .u8 (IntKind.u8.wrap (IntKind.i64.wrap (97 + (j : Int))))]) := by rw [hV]; exact XB47.out.alloc (.cells #[.string ⟨#[]⟩, .int .i64 0, .int .i64 0, .int .i64 0, .int .i64 0, .slice none 0 0] 34)
                    have hz48 : w47.heap.size + 1 = w48.heap.size := by rw [hV]; simp
                    have XN48 : Hid (Bx w48 w47.heap.size [.string ⟨#[]⟩, .int .i64 0, .int .i64 0, .int .i64 0, .int .i64 0, .slice none 0 0]) := by rw [hV]; exact Bx.new [.string ⟨#[]⟩, .int .i64 0, .int .i64 0, .int .i64 0, .int .i64 0, .slice none 0 0] _ rfl
                    clear hV
                    obtain ⟨xn, hq48⟩ : ∃ q, q = w47.heap.size := ⟨_, rfl⟩
                    rw [← hq48] at XN48 ⊢
                    have hb48 : w47.heap.size ≤ xn ∧ xn + 1 = w48.heap.size := by omega
                    clear hq48 hz48
                    refine hK.out _ _ (fun _ => ⟨⟨XT48.out.c 0 rfl, XT48.out.c 1 rfl, XT48.out.c 2 rfl⟩, XB48.out.c 0 rfl, XB48.out.c 1 rfl⟩) (fun _ => ?_)
                    clear hK K XT47 D47 C47 hR47 XB47
                    refine Walks.one (i := 11) (o := _) (by kernel_rfl) rfl (fun K hK => ?_)
                    have n0 := XN48.out.c 0 rfl
                    have nf0 := XN48.out.f 0 rfl
                    have n1 := XN48.out.c 1 rfl
                    have nf1 := XN48.out.f 1 rfl
                    have n2 := XN48.out.c 2 rfl
                    have nf2 := XN48.out.f 2 rfl
                    have n3 := XN48.out.c 3 rfl
                    have nf3 := XN48.out.f 3 rfl
                    have n4 := XN48.out.c 4 rfl
                    have nf4 := XN48.out.f 4 rfl
                    have n5 := XN48.out.c 5 rfl
                    have nf5 := XN48.out.f 5 rfl
                    have nz := XN48.out.size
                    go_simp
                    have DF := hid ((((((D48.out.setOff (a := ⟨xn, 0, none⟩) (by dsimp only; omega) (.string (two 110 (IntKind.u8.wrap (IntKind.i64.wrap (97 + (j : Int))))))).setOff (a := ⟨xn, 1, none⟩) (by dsimp only; omega) (.int .i64 z1)).setOff (a := ⟨xn, 2, none⟩) (by dsimp only; omega) (.int .i64 z2)).setOff (a := ⟨xn, 3, none⟩) (by dsimp only; omega) (.int .i64 z3)).setOff (a := ⟨xn, 4, none⟩) (by dsimp only; omega) (.int .i64 (IntKind.i64.wrap (3 + y)))).setOff (a := ⟨xn, 5, none⟩) (by dsimp only; omega) (.slice none 0 0))
                    have CF := hid ((((((C48.out.other (a := ⟨xn, 0, none⟩) (by dsimp only; omega) (.string (two 110 (IntKind.u8.wrap (IntKind.i64.wrap (97 + (j : Int))))))).other (a := ⟨xn, 1, none⟩) (by dsimp only; omega) (.int .i64 z1)).other (a := ⟨xn, 2, none⟩) (by dsimp only; omega) (.int .i64 z2)).other (a := ⟨xn, 3, none⟩) (by dsimp only; omega) (.int .i64 z3)).other (a := ⟨xn, 4, none⟩) (by dsimp only; omega) (.int .i64 (IntKind.i64.wrap (3 + y)))).other (a := ⟨xn, 5, none⟩) (by dsimp only; omega) (.slice none 0 0))
                    have RF := ((((((hR48.set (a := ⟨xn, 0, none⟩) (by dsimp only; omega) (.string (two 110 (IntKind.u8.wrap (IntKind.i64.wrap (97 + (j : Int))))))).set (a := ⟨xn, 1, none⟩) (by dsimp only; omega) (.int .i64 z1)).set (a := ⟨xn, 2, none⟩) (by dsimp only; omega) (.int .i64 z2)).set (a := ⟨xn, 3, none⟩) (by dsimp only; omega) (.int .i64 z3)).set (a := ⟨xn, 4, none⟩) (by dsimp only; omega) (.int .i64 (IntKind.i64.wrap (3 + y)))).set (a := ⟨xn, 5, none⟩) (by dsimp only; omega) (.slice none 0 0))
                    have XF := hid ((((((XN48.out.set 0 (.string (two 110 (IntKind.u8.wrap (IntKind.i64.wrap (97 + (j : Int))))))).set 1 (.int .i64 z1)).set 2 (.int .i64 z2)).set 3 (.int .i64 z3)).set 4 (.int .i64 (IntKind.i64.wrap (3 + y)))).set 5 (.slice none 0 0))
                    refine hK.out _ _ (fun h => absurd h (by decide)) (fun _ => ?_)
                    clear hK K n0 n1 n2 n3 n4 n5 nf0 nf1 nf2 nf3 nf4 nf5
                    refine Walks.done (by kernel_rfl) ?_ _
                    go_wp2
                    go_meet
                    exact ⟨xn, two 110 (IntKind.u8.wrap (IntKind.i64.wrap (97 + (j : Int)))), z1, z2, z3, _, k47, sd47, rfl, by rw [two_size]; omega, by omega, by omega, by simp <;> omega, XF, DF, CF, RF⟩
                · go_simp
                  obtain ⟨w47, hV⟩ : ∃ V, V = (w46.alloc (.cells #[.string ⟨#[]⟩, .int .i64 0, .int .i64 0, .int .i64 0, .int .i64 0, .slice none 0 0] 34)) := ⟨_, rfl⟩
                  rw [← hV]
                  have XT47 : Hid (Bx w47 ad [.int .i64 z1, .int .i64 z2, .int .i64 z3]) := by rw [hV]; exact XT46.out.alloc (.cells #[.string ⟨#[]⟩, .int .i64 0, .int .i64 0, .int .i64 0, .int .i64 0, .slice none 0 0] 34)
                  have D47 : Hid (GO w.heap.size wr.heap.size w47 o c us) := by rw [hV]; exact D46.out.later (below1 w46 (.cells #[.string ⟨#[]⟩, .int .i64 0, .int .i64 0, .int .i64 0, .int .i64 0, .slice none 0 0] 34))
                  have C47 : Hid (Cur w47 p co cap bs k2 sd2) := by rw [hV]; exact C46.out.later (below1 w46 (.cells #[.string ⟨#[]⟩, .int .i64 0, .int .i64 0, .int .i64 0, .int .i64 0, .slice none 0 0] 34))
                  have hR47 : Grew p w w47 := by rw [hV]; exact (hR46.trans (Grew.alloc p _ _))
                  have XB47 : Hid (Bx w47 bq [.int .u8 110, .int .u8 (IntKind.u8.wrap (IntKind.i64.wrap (97 + (j : Int))))]) := by rw [hV]; exact XB46.out.alloc (.cells #[.string ⟨#[]⟩, .int .i64 0, .int .i64 0, .int .i64 0, .int .i64 0, .slice none 0 0] 34)
                  have hz47 : w46.heap.size + 1 = w47.heap.size := by rw [hV]; simp
                  have XN47 : Hid (Bx w47 w46.heap.size [.string ⟨#[]⟩, .int .i64 0, .int .i64 0, .int .i64 0, .int .i64 0, .slice none 0 0]) := by rw [hV]; exact Bx.new [.string ⟨#[]⟩, .int .i64 0, .int .i64 0, .int .i64 0, .int .i64 0, .slice none 0 0] _ rfl
                  clear hV
                  obtain ⟨xn, hq47⟩ : ∃ q, q = w46.heap.size := ⟨_, rfl⟩
                  rw [← hq47] at XN47 ⊢
                  have hb47 : w46.heap.size ≤ xn ∧ xn + 1 = w47.heap.size := by omega
                  clear hq47 hz47
                  refine hK.out _ _ (fun _ => ⟨⟨XT47.out.c 0 rfl, XT47.out.c 1 rfl, XT47.out.c 2 rfl⟩, XB47.out.c 0 rfl, XB47.out.c 1 rfl⟩) (fun _ => ?_)
                  clear hK K XT46 D46 C46 hR46 XB46
                  refine Walks.one (i := 7) (o := _) (by kernel_rfl) rfl (fun K hK => ?_)
                  · go_simp
                    refine (pick_any 6 p co cap bs k2 sd2 w47 hl (by omega) C47.out).mono ?_
                    rintro e w48 ⟨⟨y, rfl, h0y, h1y⟩, hD⟩
                    obtain ⟨k48, sd48, hk48, hC48, hg0, hsz48⟩ := hD.grew
                    have hg : Grew p w47 w48 := hg0
                    have XT48 := hid (XT47.out.grew hg (by omega))
                    have XB48 := hid (XB47.out.grew hg (by omega))
                    have XN48 := hid (XN47.out.grew hg (by omega))
                    have D48 := hid (D47.out.grew hg (by omega))
                    have C48 := hid hC48
                    have hR48 : Grew p w w48 := hR47.trans hg
                    have hb48 : w47.heap.size ≤ w48.heap.size := hg.size
                    clear hD hC48 hg0 hg hsz48
                    refine hK.out _ _ (fun _ => ⟨⟨XT48.out.c 0 rfl, XT48.out.c 1 rfl, XT48.out.c 2 rfl⟩, XB48.out.c 0 rfl, XB48.out.c 1 rfl⟩) (fun _ => ?_)
                    clear hK K XT47 D47 C47 hR47 XB47 XN47
                    refine Walks.take (i := 8) (v := ?vz9) rfl (by kernel_rfl) (by kernel_rfl) (fun _ _ _ h => h) _ _ _ _ (by kernel_rfl) (by kernel_rfl) (Or.inl ⟨by rfl, ?hyz9⟩) ⟨⟨XT48.out.c 0 rfl, XT48.out.c 1 rfl, XT48.out.c 2 rfl⟩, XB48.out.c 0 rfl, XB48.out.c 1 rfl⟩ ?restz9
                    case hyz9 => (intro w' hSw; (try dsimp only at hSw); go_simp <;> with_reducible rfl)
                    refine Walks.take (i := 9) (v := ?vz10) rfl (by kernel_rfl) (by kernel_rfl) (fun _ _ _ h => h) _ _ _ _ (by kernel_rfl) (by kernel_rfl) (Or.inl ⟨by rfl, ?hyz10⟩) ⟨⟨XT48.out.c 0 rfl, XT48.out.c 1 rfl, XT48.out.c 2 rfl⟩, XB48.out.c 0 rfl, XB48.out.c 1 rfl⟩ ?restz10
                    case hyz10 => (intro w' hSw; (try dsimp only at hSw); go_simp <;> with_reducible rfl)
                    refine Walks.one (i := 11) (o := _) (by kernel_rfl) rfl (fun K hK => ?_)
                    have n0 := XN48.out.c 0 rfl
                    have nf0 := XN48.out.f 0 rfl
                    have n1 := XN48.out.c 1 rfl
                    have nf1 := XN48.out.f 1 rfl
                    have n2 := XN48.out.c 2 rfl
                    have nf2 := XN48.out.f 2 rfl
                    have n3 := XN48.out.c 3 rfl
                    have nf3 := XN48.out.f 3 rfl
                    have n4 := XN48.out.c 4 rfl
                    have nf4 := XN48.out.f 4 rfl
                    have n5 := XN48.out.c 5 rfl
                    have nf5 := XN48.out.f 5 rfl
                    have nz := XN48.out.size
                    go_simp
                    have DF := hid ((((((D48.out.setOff (a := ⟨xn, 0, none⟩) (by dsimp only; omega) (.string (two 110 (IntKind.u8.wrap (IntKind.i64.wrap (97 + (j : Int))))))).setOff (a := ⟨xn, 1, none⟩) (by dsimp only; omega) (.int .i64 z1)).setOff (a := ⟨xn, 2, none⟩) (by dsimp only; omega) (.int .i64 z2)).setOff (a := ⟨xn, 3, none⟩) (by dsimp only; omega) (.int .i64 z3)).setOff (a := ⟨xn, 4, none⟩) (by dsimp only; omega) (.int .i64 (IntKind.i64.wrap (3 + y)))).setOff (a := ⟨xn, 5, none⟩) (by dsimp only; omega) (.slice none 0 0))
                    have CF := hid ((((((C48.out.other (a := ⟨xn, 0, none⟩) (by dsimp only; omega) (.string (two 110 (IntKind.u8.wrap (IntKind.i64.wrap (97 + (j : Int))))))).other (a := ⟨xn, 1, none⟩) (by dsimp only; omega) (.int .i64 z1)).other (a := ⟨xn, 2, none⟩) (by dsimp only; omega) (.int .i64 z2)).other (a := ⟨xn, 3, none⟩) (by dsimp only; omega) (.int .i64 z3)).other (a := ⟨xn, 4, none⟩) (by dsimp only; omega) (.int .i64 (IntKind.i64.wrap (3 + y)))).other (a := ⟨xn, 5, none⟩) (by dsimp only; omega) (.slice none 0 0))
                    have RF := ((((((hR48.set (a := ⟨xn, 0, none⟩) (by dsimp only; omega) (.string (two 110 (IntKind.u8.wrap (IntKind.i64.wrap (97 + (j : Int))))))).set (a := ⟨xn, 1, none⟩) (by dsimp only; omega) (.int .i64 z1)).set (a := ⟨xn, 2, none⟩) (by dsimp only; omega) (.int .i64 z2)).set (a := ⟨xn, 3, none⟩) (by dsimp only; omega) (.int .i64 z3)).set (a := ⟨xn, 4, none⟩) (by dsimp only; omega) (.int .i64 (IntKind.i64.wrap (3 + y)))).set (a := ⟨xn, 5, none⟩) (by dsimp only; omega) (.slice none 0 0))
                    have XF := hid ((((((XN48.out.set 0 (.string (two 110 (IntKind.u8.wrap (IntKind.i64.wrap (97 + (j : Int))))))).set 1 (.int .i64 z1)).set 2 (.int .i64 z2)).set 3 (.int .i64 z3)).set 4 (.int .i64 (IntKind.i64.wrap (3 + y)))).set 5 (.slice none 0 0))
                    refine hK.out _ _ (fun h => absurd h (by decide)) (fun _ => ?_)
                    clear hK K n0 n1 n2 n3 n4 n5 nf0 nf1 nf2 nf3 nf4 nf5
                    refine Walks.done (by kernel_rfl) ?_ _
                    go_wp2
                    go_meet
                    exact ⟨xn, two 110 (IntKind.u8.wrap (IntKind.i64.wrap (97 + (j : Int)))), z1, z2, z3, _, k48, sd48, rfl, by rw [two_size]; omega, by omega, by omega, by simp <;> omega, XF, DF, CF, RF⟩
              · go_simp
                refine (pick_any 6 p co cap bs k2 sd2 wd.drew hl (by omega) C45.out.drew).mono ?_
                rintro e w46 ⟨⟨y, rfl, h0y, h1y⟩, hD⟩
                obtain ⟨k46, sd46, hk46, hC46, hg0, hsz46⟩ := hD.grew
                have hg : Grew p wd w46 := hg0.from
                have XT46 := hid (XT45.out.grew hg (by omega))
                have D46 := hid (D45.out.grew hg (by omega))
                have C46 := hid hC46
                have hR46 : Grew p w w46 := hR45.trans hg
                have hb46 : wd.heap.size ≤ w46.heap.size := hg.size
                clear hD hC46 hg0 hg hsz46
                refine hK.out _ _ (fun _ => ⟨XT46.out.c 0 rfl, XT46.out.c 1 rfl, XT46.out.c 2 rfl⟩) (fun _ => ?_)
                clear hK K XT45 D45 C45 hR45 
                refine Walks.take (i := 8) (v := ?vz11) rfl (by kernel_rfl) (by kernel_rfl) (fun _ _ _ h => h) _ _ _ _ (by kernel_rfl) (by kernel_rfl) (Or.inl ⟨by rfl, ?hyz11⟩) ⟨XT46.out.c 0 rfl, XT46.out.c 1 rfl, XT46.out.c 2 rfl⟩ ?restz11
                case hyz11 => (intro w' hSw; (try dsimp only at hSw); go_simp <;> with_reducible rfl)
                refine Walks.pair (i := 3) (j := 10) (by kernel_rfl) rfl rfl (fun K hK => ?_) (fun K hK => ?_)
                · go_simp
                  obtain ⟨w47, hV⟩ : ∃ V, V = (w46.alloc (.cells #[.int .u8 110, .int .u8 (IntKind.u8.wrap (IntKind.i64.wrap (97 + (j : Int))))] 5)) := ⟨_, rfl⟩
                  rw [← hV]
                  have XT47 : Hid (Bx w47 ad [.int .i64 z1, .int .i64 z2, .int .i64 z3]) := by rw [hV]; exact XT46.out.alloc (.cells #[.int .u8 110, .int .u8 (IntKind.u8.wrap (IntKind.i64.wrap (97 + (j : Int))))] 5)
                  have D47 : Hid (GO w.heap.size wr.heap.size w47 o c us) := by rw [hV]; exact D46.out.later (below1 w46 (.cells #[.int .u8 110, .int .u8 (IntKind.u8.wrap (IntKind.i64.wrap (97 + (j : Int))))] 5))
                  have C47 : Hid (Cur w47 p co cap bs k46 sd46) := by rw [hV]; exact C46.out.later (below1 w46 (.cells #[.int .u8 110, .int .u8 (IntKind.u8.wrap (IntKind.i64.wrap (97 + (j : Int))))] 5))
                  have hR47 : Grew p w w47 := by rw [hV]; exact (hR46.trans (Grew.alloc p _ _))
                  have hz47 : w46.heap.size + 1 = w47.heap.size := by rw [hV]; simp
                  have XB47 : Hid (Bx w47 w46.heap.size [.int .u8 110, .int .u8 (IntKind.u8.wrap (IntKind.i64.wrap (97 + (j : Int))))]) := by rw [hV]; exact Bx.new [.int .u8 110, .int .u8 (IntKind.u8.wrap (IntKind.i64.wrap (97 + (j : Int))))] _ rfl
                  clear hV
                  obtain ⟨bq, hq47⟩ : ∃ q, q = w46.heap.size := ⟨_, rfl⟩
                  rw [← hq47] at XB47 ⊢
                  have hb47 : w46.heap.size ≤ bq ∧ bq + 1 = w47.heap.size := by omega
                  clear hq47 hz47
                  refine hK.out _ _ (fun _ => ⟨XT47.out.c 0 rfl, XT47.out.c 1 rfl, XT47.out.c 2 rfl⟩) (fun _ => ?_)
                  clear hK K XT46 D46 C46 hR46 
                  refine Walks.weaken (S' := fun Y => (Y.cell? ⟨ad, 0, none⟩ = some (.int .i64 z1) ∧ Y.cell? ⟨ad, 1, none⟩ = some (.int .i64 z2) ∧ Y.cell? ⟨ad, 2, none⟩ = some (.int .i64 z3)) ∧ Y.cell? ⟨bq, 0, none⟩ = some (.int .u8 110) ∧ Y.cell? ⟨bq, 1, none⟩ = some (.int .u8 (IntKind.u8.wrap (IntKind.i64.wrap (97 + (j : Int)))))) (fun _ h => h.1) ?_
                  refine Walks.take (i := 4) (v := ?vz12) rfl (by kernel_rfl) (by kernel_rfl) (fun _ _ _ h => h) _ _ _ _ (by kernel_rfl) (by kernel_rfl) (Or.inl ⟨by rfl, ?hyz12⟩) ⟨⟨XT47.out.c 0 rfl, XT47.out.c 1 rfl, XT47.out.c 2 rfl⟩, XB47.out.c 0 rfl, XB47.out.c 1 rfl⟩ ?restz12
                  case hyz12 => (intro w' hSw; (have hcv := conv_two _ _ w' bq hSw.2.1 hSw.2.2); (try dsimp only at hSw); go_simp <;> with_reducible rfl)
                  refine Walks.take (i := 9) (v := ?vz13) rfl (by kernel_rfl) (by kernel_rfl) (fun _ _ _ h => h) _ _ _ _ (by kernel_rfl) (by kernel_rfl) (Or.inl ⟨by rfl, ?hyz13⟩) ⟨⟨XT47.out.c 0 rfl, XT47.out.c 1 rfl, XT47.out.c 2 rfl⟩, XB47.out.c 0 rfl, XB47.out.c 1 rfl⟩ ?restz13
                  case hyz13 => (intro w' hSw; (try dsimp only at hSw); go_simp <;> with_reducible rfl)
                  refine Walks.one (i := 10) (o := _) (by kernel_rfl) rfl (fun K hK => ?_)
                  · go_simp
                    obtain ⟨w48, hV⟩ : ∃ V, V = (w47.alloc (.cells #[.string ⟨#[]⟩, .int .i64 0, .int .i64 0, .int .i64 0, .int .i64 0, .slice none 0 0] 34)) := ⟨_, rfl⟩
                    rw [← hV]
                    have XT48 : Hid (Bx w48 ad [.int .i64 z1, .int .i64 z2, .int .i64 z3]) := by rw [hV]; exact XT47.out.alloc (.cells #[.string ⟨#[]⟩, .int .i64 0, .int .i64 0, .int .i64 0, .int .i64 0, .slice none 0 0] 34)
                    have D48 : Hid (GO w.heap.size wr.heap.size w48 o c us) := by rw [hV]; exact D47.out.later (below1 w47 (.cells #[.string ⟨#[]⟩, .int .i64 0, .int .i64 0, .int .i64 0, .int .i64 0, .slice none 0 0] 34))
                    have C48 : Hid (Cur w48 p co cap bs k46 sd46) := by rw [hV]; exact C47.out.later (below1 w47 (.cells #[.string ⟨#[]⟩, .int .i64 0, .int .i64 0, .int .i64 0, .int .i64 0, .slice none 0 0] 34))
                    have hR48 : Grew p w w48 := by rw [hV]; exact (hR47.trans (Grew.alloc p _ _))
                    have XB48 : Hid (Bx w48 bq [.int .u8 110, .int .u8 (IntKind.u8.wrap (IntKind.i64.wrap (97 + (j : Int))))]) := by rw [hV]; exact XB47.out.alloc (.cells #[.string ⟨#[]⟩, .int .i64 0, .int .i64 0, .int .i64 0, .int .i64 0, .slice none 0 0] 34)
                    have hz48 : w47.heap.size + 1 = w48.heap.size := by rw [hV]; simp
                    have XN48 : Hid (Bx w48 w47.heap.size [.string ⟨#[]⟩, .int .i64 0, .int .i64 0, .int .i64 0, .int .i64 0, .slice none 0 0]) := by rw [hV]; exact Bx.new [.string ⟨#[]⟩, .int .i64 0, .int .i64 0, .int .i64 0, .int .i64 0, .slice none 0 0] _ rfl
                    clear hV
                    obtain ⟨xn, hq48⟩ : ∃ q, q = w47.heap.size := ⟨_, rfl⟩
                    rw [← hq48] at XN48 ⊢
                    have hb48 : w47.heap.size ≤ xn ∧ xn + 1 = w48.heap.size := by omega
                    clear hq48 hz48
                    refine hK.out _ _ (fun _ => ⟨⟨XT48.out.c 0 rfl, XT48.out.c 1 rfl, XT48.out.c 2 rfl⟩, XB48.out.c 0 rfl, XB48.out.c 1 rfl⟩) (fun _ => ?_)
                    clear hK K XT47 D47 C47 hR47 XB47
                    refine Walks.one (i := 11) (o := _) (by kernel_rfl) rfl (fun K hK => ?_)
                    have n0 := XN48.out.c 0 rfl
                    have nf0 := XN48.out.f 0 rfl
                    have n1 := XN48.out.c 1 rfl
                    have nf1 := XN48.out.f 1 rfl
                    have n2 := XN48.out.c 2 rfl
                    have nf2 := XN48.out.f 2 rfl
                    have n3 := XN48.out.c 3 rfl
                    have nf3 := XN48.out.f 3 rfl
                    have n4 := XN48.out.c 4 rfl
                    have nf4 := XN48.out.f 4 rfl
                    have n5 := XN48.out.c 5 rfl
                    have nf5 := XN48.out.f 5 rfl
                    have nz := XN48.out.size
                    go_simp
                    have DF := hid ((((((D48.out.setOff (a := ⟨xn, 0, none⟩) (by dsimp only; omega) (.string (two 110 (IntKind.u8.wrap (IntKind.i64.wrap (97 + (j : Int))))))).setOff (a := ⟨xn, 1, none⟩) (by dsimp only; omega) (.int .i64 z1)).setOff (a := ⟨xn, 2, none⟩) (by dsimp only; omega) (.int .i64 z2)).setOff (a := ⟨xn, 3, none⟩) (by dsimp only; omega) (.int .i64 z3)).setOff (a := ⟨xn, 4, none⟩) (by dsimp only; omega) (.int .i64 (IntKind.i64.wrap (3 + y)))).setOff (a := ⟨xn, 5, none⟩) (by dsimp only; omega) (.slice none 0 0))
                    have CF := hid ((((((C48.out.other (a := ⟨xn, 0, none⟩) (by dsimp only; omega) (.string (two 110 (IntKind.u8.wrap (IntKind.i64.wrap (97 + (j : Int))))))).other (a := ⟨xn, 1, none⟩) (by dsimp only; omega) (.int .i64 z1)).other (a := ⟨xn, 2, none⟩) (by dsimp only; omega) (.int .i64 z2)).other (a := ⟨xn, 3, none⟩) (by dsimp only; omega) (.int .i64 z3)).other (a := ⟨xn, 4, none⟩) (by dsimp only; omega) (.int .i64 (IntKind.i64.wrap (3 + y)))).other (a := ⟨xn, 5, none⟩) (by dsimp only; omega) (.slice none 0 0))
                    have RF := ((((((hR48.set (a := ⟨xn, 0, none⟩) (by dsimp only; omega) (.string (two 110 (IntKind.u8.wrap (IntKind.i64.wrap (97 + (j : Int))))))).set (a := ⟨xn, 1, none⟩) (by dsimp only; omega) (.int .i64 z1)).set (a := ⟨xn, 2, none⟩) (by dsimp only; omega) (.int .i64 z2)).set (a := ⟨xn, 3, none⟩) (by dsimp only; omega) (.int .i64 z3)).set (a := ⟨xn, 4, none⟩) (by dsimp only; omega) (.int .i64 (IntKind.i64.wrap (3 + y)))).set (a := ⟨xn, 5, none⟩) (by dsimp only; omega) (.slice none 0 0))
                    have XF := hid ((((((XN48.out.set 0 (.string (two 110 (IntKind.u8.wrap (IntKind.i64.wrap (97 + (j : Int))))))).set 1 (.int .i64 z1)).set 2 (.int .i64 z2)).set 3 (.int .i64 z3)).set 4 (.int .i64 (IntKind.i64.wrap (3 + y)))).set 5 (.slice none 0 0))
                    refine hK.out _ _ (fun h => absurd h (by decide)) (fun _ => ?_)
                    clear hK K n0 n1 n2 n3 n4 n5 nf0 nf1 nf2 nf3 nf4 nf5
                    refine Walks.done (by kernel_rfl) ?_ _
                    go_wp2
                    go_meet
                    exact ⟨xn, two 110 (IntKind.u8.wrap (IntKind.i64.wrap (97 + (j : Int)))), z1, z2, z3, _, k46, sd46, rfl, by rw [two_size]; omega, by omega, by omega, by simp <;> omega, XF, DF, CF, RF⟩
                · go_simp
                  obtain ⟨w47, hV⟩ : ∃ V, V = (w46.alloc (.cells #[.string ⟨#[]⟩, .int .i64 0, .int .i64 0, .int .i64 0, .int .i64 0, .slice none 0 0] 34)) := ⟨_, rfl⟩
                  rw [← hV]
                  have XT47 : Hid (Bx w47 ad [.int .i64 z1, .int .i64 z2, .int .i64 z3]) := by rw [hV]; exact XT46.out.alloc (.cells #[.string ⟨#[]⟩, .int .i64 0, .int .i64 0, .int .i64 0, .int .i64 0, .slice none 0 0] 34)
                  have D47 : Hid (GO w.heap.size wr.heap.size w47 o c us) := by rw [hV]; exact D46.out.later (below1 w46 (.cells #[.string ⟨#[]⟩, .int .i64 0, .int .i64 0, .int .i64 0, .int .i64 0, .slice none 0 0] 34))
                  have C47 : Hid (Cur w47 p co cap bs k46 sd46) := by rw [hV]; exact C46.out.later (below1 w46 (.cells #[.string ⟨#[]⟩, .int .i64 0, .int .i64 0, .int .i64 0, .int .i64 0, .slice none 0 0] 34))
                  have hR47 : Grew p w w47 := by rw [hV]; exact (hR46.trans (Grew.alloc p _ _))
                  have hz47 : w46.heap.size + 1 = w47.heap.size := by rw [hV]; simp
                  have XN47 : Hid (Bx w47 w46.heap.size [.string ⟨#[]⟩, .int .i64 0, .int .i64 0, .int .i64 0, .int .i64 0, .slice none 0 0]) := by rw [hV]; exact Bx.new [.string ⟨#[]⟩, .int .i64 0, .int .i64 0, .int .i64 0, .int .i64 0, .slice none 0 0] _ rfl
                  clear hV
                  obtain ⟨xn, hq47⟩ : ∃ q, q = w46.heap.size := ⟨_, rfl⟩
                  rw [← hq47] at XN47 ⊢
                  have hb47 : w46.heap.size ≤ xn ∧ xn + 1 = w47.heap.size := by omega
                  clear hq47 hz47
                  refine hK.out _ _ (fun _ => ⟨XT47.out.c 0 rfl, XT47.out.c 1 rfl, XT47.out.c 2 rfl⟩) (fun _ => ?_)
                  clear hK K XT46 D46 C46 hR46 
                  refine Walks.one (i := 3) (o := _) (by kernel_rfl) rfl (fun K hK => ?_)
                  · go_simp
                    obtain ⟨w48, hV⟩ : ∃ V, V = (w47.alloc (.cells #[.int .u8 110, .int .u8 (IntKind.u8.wrap (IntKind.i64.wrap (97 + (j : Int))))] 5)) := ⟨_, rfl⟩
                    rw [← hV]
                    have XT48 : Hid (Bx w48 ad [.int .i64 z1, .int .i64 z2, .int .i64 z3]) := by rw [hV]; exact XT47.out.alloc (.cells #[.int .u8 110, .int .u8 (IntKind.u8.wrap (IntKind.i64.wrap (97 + (j : Int))))] 5)
                    have D48 : Hid (GO w.heap.size wr.heap.size w48 o c us) := by rw [hV]; exact D47.out.later (below1 w47 (.cells #[.int .u8 110, .int .u8 (IntKind.u8.wrap (IntKind.i64.wrap (97 + (j : Int))))] 5))
                    have C48 : Hid (Cur w48 p co cap bs k46 sd46) := by rw [hV]; exact C47.out.later (below1 w47 (.cells #[.int .u8 110, .int .u8 (IntKind.u8.wrap (IntKind.i64.wrap (97 + (j : Int))))] 5))
                    have hR48 : Grew p w w48 := by rw [hV]; exact (hR47.trans (Grew.alloc p _ _))
                    have XN48 : Hid (Bx w48 xn [.string ⟨#[]⟩, .int .i64 0, .int .i64 0, .int .i64 0, .int .i64 0, .slice none 0 0]) := by rw [hV]; exact XN47.out.alloc (.cells #[.int .u8 110, .int .u8 (IntKind.u8.wrap (IntKind.i64.wrap (97 + (j : Int))))] 5)
                    have hz48 : w47.heap.size + 1 = w48.heap.size := by rw [hV]; simp
                    have XB48 : Hid (Bx w48 w47.heap.size [.int .u8 110, .int .u8 (IntKind.u8.wrap (IntKind.i64.wrap (97 + (j : Int))))]) := by rw [hV]; exact Bx.new [.int .u8 110, .int .u8 (IntKind.u8.wrap (IntKind.i64.wrap (97 + (j : Int))))] _ rfl
                    clear hV
                    obtain ⟨bq, hq48⟩ : ∃ q, q = w47.heap.size := ⟨_, rfl⟩
                    rw [← hq48] at XB48 ⊢
                    have hb48 : w47.heap.size ≤ bq ∧ bq + 1 = w48.heap.size := by omega
                    clear hq48 hz48
                    refine hK.out _ _ (fun _ => ⟨XT48.out.c 0 rfl, XT48.out.c 1 rfl, XT48.out.c 2 rfl⟩) (fun _ => ?_)
                    clear hK K XT47 D47 C47 hR47 XN47
                    refine Walks.weaken (S' := fun Y => (Y.cell? ⟨ad, 0, none⟩ = some (.int .i64 z1) ∧ Y.cell? ⟨ad, 1, none⟩ = some (.int .i64 z2) ∧ Y.cell? ⟨ad, 2, none⟩ = some (.int .i64 z3)) ∧ Y.cell? ⟨bq, 0, none⟩ = some (.int .u8 110) ∧ Y.cell? ⟨bq, 1, none⟩ = some (.int .u8 (IntKind.u8.wrap (IntKind.i64.wrap (97 + (j : Int)))))) (fun _ h => h.1) ?_
                    refine Walks.take (i := 4) (v := ?vz14) rfl (by kernel_rfl) (by kernel_rfl) (fun _ _ _ h => h) _ _ _ _ (by kernel_rfl) (by kernel_rfl) (Or.inl ⟨by rfl, ?hyz14⟩) ⟨⟨XT48.out.c 0 rfl, XT48.out.c 1 rfl, XT48.out.c 2 rfl⟩, XB48.out.c 0 rfl, XB48.out.c 1 rfl⟩ ?restz14
                    case hyz14 => (intro w' hSw; (have hcv := conv_two _ _ w' bq hSw.2.1 hSw.2.2); (try dsimp only at hSw); go_simp <;> with_reducible rfl)
                    refine Walks.take (i := 9) (v := ?vz15) rfl (by kernel_rfl) (by kernel_rfl) (fun _ _ _ h => h) _ _ _ _ (by kernel_rfl) (by kernel_rfl) (Or.inl ⟨by rfl, ?hyz15⟩) ⟨⟨XT48.out.c 0 rfl, XT48.out.c 1 rfl, XT48.out.c 2 rfl⟩, XB48.out.c 0 rfl, XB48.out.c 1 rfl⟩ ?restz15
                    case hyz15 => (intro w' hSw; (try dsimp only at hSw); go_simp <;> with_reducible rfl)
                    refine Walks.one (i := 11) (o := _) (by kernel_rfl) rfl (fun K hK => ?_)
                    have n0 := XN48.out.c 0 rfl
                    have nf0 := XN48.out.f 0 rfl
                    have n1 := XN48.out.c 1 rfl
                    have nf1 := XN48.out.f 1 rfl
                    have n2 := XN48.out.c 2 rfl
                    have nf2 := XN48.out.f 2 rfl
                    have n3 := XN48.out.c 3 rfl
                    have nf3 := XN48.out.f 3 rfl
                    have n4 := XN48.out.c 4 rfl
                    have nf4 := XN48.out.f 4 rfl
                    have n5 := XN48.out.c 5 rfl
                    have nf5 := XN48.out.f 5 rfl
                    have nz := XN48.out.size
                    go_simp
                    have DF := hid ((((((D48.out.setOff (a := ⟨xn, 0, none⟩) (by dsimp only; omega) (.string (two 110 (IntKind.u8.wrap (IntKind.i64.wrap (97 + (j : Int))))))).setOff (a := ⟨xn, 1, none⟩) (by dsimp only; omega) (.int .i64 z1)).setOff (a := ⟨xn, 2, none⟩) (by dsimp only; omega) (.int .i64 z2)).setOff (a := ⟨xn, 3, none⟩) (by dsimp only; omega) (.int .i64 z3)).setOff (a := ⟨xn, 4, none⟩) (by dsimp only; omega) (.int .i64 (IntKind.i64.wrap (3 + y)))).setOff (a := ⟨xn, 5, none⟩) (by dsimp only; omega) (.slice none 0 0))
                    have CF := hid ((((((C48.out.other (a := ⟨xn, 0, none⟩) (by dsimp only; omega) (.string (two 110 (IntKind.u8.wrap (IntKind.i64.wrap (97 + (j : Int))))))).other (a := ⟨xn, 1, none⟩) (by dsimp only; omega) (.int .i64 z1)).other (a := ⟨xn, 2, none⟩) (by dsimp only; omega) (.int .i64 z2)).other (a := ⟨xn, 3, none⟩) (by dsimp only; omega) (.int .i64 z3)).other (a := ⟨xn, 4, none⟩) (by dsimp only; omega) (.int .i64 (IntKind.i64.wrap (3 + y)))).other (a := ⟨xn, 5, none⟩) (by dsimp only; omega) (.slice none 0 0))
                    have RF := ((((((hR48.set (a := ⟨xn, 0, none⟩) (by dsimp only; omega) (.string (two 110 (IntKind.u8.wrap (IntKind.i64.wrap (97 + (j : Int))))))).set (a := ⟨xn, 1, none⟩) (by dsimp only; omega) (.int .i64 z1)).set (a := ⟨xn, 2, none⟩) (by dsimp only; omega) (.int .i64 z2)).set (a := ⟨xn, 3, none⟩) (by dsimp only; omega) (.int .i64 z3)).set (a := ⟨xn, 4, none⟩) (by dsimp only; omega) (.int .i64 (IntKind.i64.wrap (3 + y)))).set (a := ⟨xn, 5, none⟩) (by dsimp only; omega) (.slice none 0 0))
                    have XF := hid ((((((XN48.out.set 0 (.string (two 110 (IntKind.u8.wrap (IntKind.i64.wrap (97 + (j : Int))))))).set 1 (.int .i64 z1)).set 2 (.int .i64 z2)).set 3 (.int .i64 z3)).set 4 (.int .i64 (IntKind.i64.wrap (3 + y)))).set 5 (.slice none 0 0))
                    refine hK.out _ _ (fun h => absurd h (by decide)) (fun _ => ?_)
                    clear hK K n0 n1 n2 n3 n4 n5 nf0 nf1 nf2 nf3 nf4 nf5
                    refine Walks.done (by kernel_rfl) ?_ _
                    go_wp2
                    go_meet
                    exact ⟨xn, two 110 (IntKind.u8.wrap (IntKind.i64.wrap (97 + (j : Int)))), z1, z2, z3, _, k46, sd46, rfl, by rw [two_size]; omega, by omega, by omega, by simp <;> omega, XF, DF, CF, RF⟩
              · go_simp
                obtain ⟨w46, hV⟩ : ∃ V, V = (wd.alloc (.cells #[.string ⟨#[]⟩, .int .i64 0, .int .i64 0, .int .i64 0, .int .i64 0, .slice none 0 0] 34)).drew := ⟨_, rfl⟩
                rw [← hV]
                have XT46 : Hid (Bx w46 ad [.int .i64 z1, .int .i64 z2, .int .i64 z3]) := by rw [hV]; exact XT45.out.alloc (.cells #[.string ⟨#[]⟩, .int .i64 0, .int .i64 0, .int .i64 0, .int .i64 0, .slice none 0 0] 34)
                have D46 : Hid (GO w.heap.size wr.heap.size w46 o c us) := by rw [hV]; exact D45.out.later (below1 wd (.cells #[.string ⟨#[]⟩, .int .i64 0, .int .i64 0, .int .i64 0, .int .i64 0, .slice none 0 0] 34)).drew
                have C46 : Hid (Cur w46 p co cap bs k2 sd2) := by rw [hV]; exact C45.out.later (below1 wd (.cells #[.string ⟨#[]⟩, .int .i64 0, .int .i64 0, .int .i64 0, .int .i64 0, .slice none 0 0] 34)).drew
                have hR46 : Grew p w w46 := by rw [hV]; exact (hR45.trans (Grew.alloc p _ _)).drew
                have hz46 : wd.heap.size + 1 = w46.heap.size := by rw [hV]; simp
                have XN46 : Hid (Bx w46 wd.heap.size [.string ⟨#[]⟩, .int .i64 0, .int .i64 0, .int .i64 0, .int .i64 0, .slice none 0 0]) := by rw [hV]; exact Bx.new [.string ⟨#[]⟩, .int .i64 0, .int .i64 0, .int .i64 0, .int .i64 0, .slice none 0 0] _ rfl
                clear hV
                obtain ⟨xn, hq46⟩ : ∃ q, q = wd.heap.size := ⟨_, rfl⟩
                rw [← hq46] at XN46 ⊢
                have hb46 : wd.heap.size ≤ xn ∧ xn + 1 = w46.heap.size := by omega
                clear hq46 hz46
                refine hK.out _ _ (fun _ => ⟨XT46.out.c 0 rfl, XT46.out.c 1 rfl, XT46.out.c 2 rfl⟩) (fun _ => ?_)
                clear hK K XT45 D45 C45 hR45 
                refine Walks.pair (i := 3) (j := 7) (by kernel_rfl) rfl rfl (fun K hK => ?_) (fun K hK => ?_)
                · go_simp
                  obtain ⟨w47, hV⟩ : ∃ V, V = (w46.alloc (.cells #[.int .u8 110, .int .u8 (IntKind.u8.wrap (IntKind.i64.wrap (97 + (j : Int))))] 5)) := ⟨_, rfl⟩
                  rw [← hV]
                  have XT47 : Hid (Bx w47 ad [.int .i64 z1, .int .i64 z2, .int .i64 z3]) := by rw [hV]; exact XT46.out.alloc (.cells #[.int .u8 110, .int .u8 (IntKind.u8.wrap (IntKind.i64.wrap (97 + (j : Int))))] 5)
                  have D47 : Hid (GO w.heap.size wr.heap.size w47 o c us) := by rw [hV]; exact D46.out.later (below1 w46 (.cells #[.int .u8 110, .int .u8 (IntKind.u8.wrap (IntKind.i64.wrap (97 + (j : Int))))] 5))
                  have C47 : Hid (Cur w47 p co cap bs k2 sd2) := by rw [hV]; exact C46.out.later (below1 w46 (.cells #[.int .u8 110, .int .u8 (IntKind.u8.wrap (IntKind.i64.wrap (97 + (j : Int))))] 5))
                  have hR47 : Grew p w w47 := by rw [hV]; exact (hR46.trans (Grew.alloc p _ _))
                  have XN47 : Hid (Bx w47 xn [.string ⟨#[]⟩, .int .i64 0, .int .i64 0, .int .i64 0, .int .i64 0, .slice none 0 0]) := by rw [hV]; exact XN46.out.alloc (.cells #[.int .u8 110, .int .u8 (IntKind.u8.wrap (IntKind.i64.wrap (97 + (j : Int))))] 5)
                  have hz47 : w46.heap.size + 1 = w47.heap.size := by rw [hV]; simp
                  have XB47 : Hid (Bx w47 w46.heap.size [.int .u8 110, .int .u8 (IntKind.u8.wrap (IntKind.i64.wrap (97 + (j : Int))))]) := by rw [hV]; exact Bx.new [.int .u8 110, .int .u8 (IntKind.u8.wrap (IntKind.i64.wrap (97 + (j : Int))))] _ rfl
                  clear hV
                  obtain ⟨bq, hq47⟩ : ∃ q, q = w46.heap.size := ⟨_, rfl⟩
                  rw [← hq47] at XB47 ⊢
                  have hb47 : w46.heap.size ≤ bq ∧ bq + 1 = w47.heap.size := by omega
                  clear hq47 hz47
                  refine hK.out _ _ (fun _ => ⟨XT47.out.c 0 rfl, XT47.out.c 1 rfl, XT47.out.c 2 rfl⟩) (fun _ => ?_)
                  clear hK K XT46 D46 C46 hR46 XN46
                  refine Walks.weaken (S' := fun Y => (Y.cell? ⟨ad, 0, none⟩ = some (.int .i64 z1) ∧ Y.cell? ⟨ad, 1, none⟩ = some (.int .i64 z2) ∧ Y.cell? ⟨ad, 2, none⟩ = some (.int .i64 z3)) ∧ Y.cell? ⟨bq, 0, none⟩ = some (.int .u8 110) ∧ Y.cell? ⟨bq, 1, none⟩ = some (.int .u8 (IntKind.u8.wrap (IntKind.i64.wrap (97 + (j : Int)))))) (fun _ h => h.1) ?_
                  refine Walks.take (i := 4) (v := ?vz16) rfl (by kernel_rfl) (by kernel_rfl) (fun _ _ _ h => h) _ _ _ _ (by kernel_rfl) (by kernel_rfl) (Or.inl ⟨by rfl, ?hyz16⟩) ⟨⟨XT47.out.c 0 rfl, XT47.out.c 1 rfl, XT47.out.c 2 rfl⟩, XB47.out.c 0 rfl, XB47.out.c 1 rfl⟩ ?restz16
                  case hyz16 => (intro w' hSw; (have hcv := conv_two _ _ w' bq hSw.2.1 hSw.2.2); (try dsimp only at hSw); go_simp <;> with_reducible rfl)
                  refine Walks.one (i := 7) (o := _) (by kernel_rfl) rfl (fun K hK => ?_)
                  · go_simp
                    refine (pick_any 6 p co cap bs k2 sd2 w47 hl (by omega) C47.out).mono ?_
                    rintro e w48 ⟨⟨y, rfl, h0y, h1y⟩, hD⟩
                    obtain ⟨k48, sd48, hk48, hC48, hg0, hsz48⟩ := hD.grew
                    have hg : Grew p w47 w48 := hg0
                    have XT48 := hid (XT47.out.grew hg (by omega))
                    have XB48 := hid (XB47.out.grew hg (by omega))
                    have XN48 := hid (XN47.out.grew hg (by omega))
                    have D48 := hid (D47.out.grew hg (by omega))
                    have C48 := hid hC48
                    have hR48 : Grew p w w48 := hR47.trans hg
                    have hb48 : w47.heap.size ≤ w48.heap.size := hg.size
                    clear hD hC48 hg0 hg hsz48
                    refine hK.out _ _ (fun _ => ⟨⟨XT48.out.c 0 rfl, XT48.out.c 1 rfl, XT48.out.c 2 rfl⟩, XB48.out.c 0 rfl, XB48.out.c 1 rfl⟩) (fun _ => ?_)
                    clear hK K XT47 D47 C47 hR47 XB47 XN47
                    refine Walks.take (i := 8) (v := ?vz17) rfl (by kernel_rfl) (by kernel_rfl) (fun _ _ _ h => h) _ _ _ _ (by kernel_rfl) (by kernel_rfl) (Or.inl ⟨by rfl, ?hyz17⟩) ⟨⟨XT48.out.c 0 rfl, XT48.out.c 1 rfl, XT48.out.c 2 rfl⟩, XB48.out.c 0 rfl, XB48.out.c 1 rfl⟩ ?restz17
                    case hyz17 => (intro w' hSw; (try dsimp only at hSw); go_simp <;> with_reducible rfl)
                    refine Walks.take (i := 9) (v := ?vz18) rfl (by kernel_rfl) (by kernel_rfl) (fun _ _ _ h => h) _ _ _ _ (by kernel_rfl) (by kernel_rfl) (Or.inl ⟨by rfl, ?hyz18⟩) ⟨⟨XT48.out.c 0 rfl, XT48.out.c 1 rfl, XT48.out.c 2 rfl⟩, XB48.out.c 0 rfl, XB48.out.c 1 rfl⟩ ?restz18
                    case hyz18 => (intro w' hSw; (try dsimp only at hSw); go_simp <;> with_reducible rfl)
                    refine Walks.one (i := 11) (o := _) (by kernel_rfl) rfl (fun K hK => ?_)
                    have n0 := XN48.out.c 0 rfl
                    have nf0 := XN48.out.f 0 rfl
                    have n1 := XN48.out.c 1 rfl
                    have nf1 := XN48.out.f 1 rfl
                    have n2 := XN48.out.c 2 rfl
                    have nf2 := XN48.out.f 2 rfl
                    have n3 := XN48.out.c 3 rfl
                    have nf3 := XN48.out.f 3 rfl
                    have n4 := XN48.out.c 4 rfl
                    have nf4 := XN48.out.f 4 rfl
                    have n5 := XN48.out.c 5 rfl
                    have nf5 := XN48.out.f 5 rfl
                    have nz := XN48.out.size
                    go_simp
                    have DF := hid ((((((D48.out.setOff (a := ⟨xn, 0, none⟩) (by dsimp only; omega) (.string (two 110 (IntKind.u8.wrap (IntKind.i64.wrap (97 + (j : Int))))))).setOff (a := ⟨xn, 1, none⟩) (by dsimp only; omega) (.int .i64 z1)).setOff (a := ⟨xn, 2, none⟩) (by dsimp only; omega) (.int .i64 z2)).setOff (a := ⟨xn, 3, none⟩) (by dsimp only; omega) (.int .i64 z3)).setOff (a := ⟨xn, 4, none⟩) (by dsimp only; omega) (.int .i64 (IntKind.i64.wrap (3 + y)))).setOff (a := ⟨xn, 5, none⟩) (by dsimp only; omega) (.slice none 0 0))
                    have CF := hid ((((((C48.out.other (a := ⟨xn, 0, none⟩) (by dsimp only; omega) (.string (two 110 (IntKind.u8.wrap (IntKind.i64.wrap (97 + (j : Int))))))).other (a := ⟨xn, 1, none⟩) (by dsimp only; omega) (.int .i64 z1)).other (a := ⟨xn, 2, none⟩) (by dsimp only; omega) (.int .i64 z2)).other (a := ⟨xn, 3, none⟩) (by dsimp only; omega) (.int .i64 z3)).other (a := ⟨xn, 4, none⟩) (by dsimp only; omega) (.int .i64 (IntKind.i64.wrap (3 + y)))).other (a := ⟨xn, 5, none⟩) (by dsimp only; omega) (.slice none 0 0))
                    have RF := ((((((hR48.set (a := ⟨xn, 0, none⟩) (by dsimp only; omega) (.string (two 110 (IntKind.u8.wrap (IntKind.i64.wrap (97 + (j : Int))))))).set (a := ⟨xn, 1, none⟩) (by dsimp only; omega) (.int .i64 z1)).set (a := ⟨xn, 2, none⟩) (by dsimp only; omega) (.int .i64 z2)).set (a := ⟨xn, 3, none⟩) (by dsimp only; omega) (.int .i64 z3)).set (a := ⟨xn, 4, none⟩) (by dsimp only; omega) (.int .i64 (IntKind.i64.wrap (3 + y)))).set (a := ⟨xn, 5, none⟩) (by dsimp only; omega) (.slice none 0 0))
                    have XF := hid ((((((XN48.out.set 0 (.string (two 110 (IntKind.u8.wrap (IntKind.i64.wrap (97 + (j : Int))))))).set 1 (.int .i64 z1)).set 2 (.int .i64 z2)).set 3 (.int .i64 z3)).set 4 (.int .i64 (IntKind.i64.wrap (3 + y)))).set 5 (.slice none 0 0))
                    refine hK.out _ _ (fun h => absurd h (by decide)) (fun _ => ?_)
                    clear hK K n0 n1 n2 n3 n4 n5 nf0 nf1 nf2 nf3 nf4 nf5
                    refine Walks.done (by kernel_rfl) ?_ _
                    go_wp2
                    go_meet
                    exact ⟨xn, two 110 (IntKind.u8.wrap (IntKind.i64.wrap (97 + (j : Int)))), z1, z2, z3, _, k48, sd48, rfl, by rw [two_size]; omega, by omega, by omega, by simp <;> omega, XF, DF, CF, RF⟩
                · go_simp
                  refine (pick_any 6 p co cap bs k2 sd2 w46 hl (by omega) C46.out).mono ?_
                  rintro e w47 ⟨⟨y, rfl, h0y, h1y⟩, hD⟩
                  obtain ⟨k47, sd47, hk47, hC47, hg0, hsz47⟩ := hD.grew
                  have hg : Grew p w46 w47 := hg0
                  have XT47 := hid (XT46.out.grew hg (by omega))
                  have XN47 := hid (XN46.out.grew hg (by omega))
                  have D47 := hid (D46.out.grew hg (by omega))
                  have C47 := hid hC47
                  have hR47 : Grew p w w47 := hR46.trans hg
                  have hb47 : w46.heap.size ≤ w47.heap.size := hg.size
                  clear hD hC47 hg0 hg hsz47
                  refine hK.out _ _ (fun _ => ⟨XT47.out.c 0 rfl, XT47.out.c 1 rfl, XT47.out.c 2 rfl⟩) (fun _ => ?_)
                  clear hK K XT46 D46 C46 hR46 XN46
                  refine Walks.take (i := 8) (v := ?vz19) rfl (by kernel_rfl) (by kernel_rfl) (fun _ _ _ h => h) _ _ _ _ (by kernel_rfl) (by kernel_rfl) (Or.inl ⟨by rfl, ?hyz19⟩) ⟨XT47.out.c 0 rfl, XT47.out.c 1 rfl, XT47.out.c 2 rfl⟩ ?restz19
                  case hyz19 => (intro w' hSw; (try dsimp only at hSw); go_simp <;> with_reducible rfl)
                  refine Walks.one (i := 3) (o := _) (by kernel_rfl) rfl (fun K hK => ?_)
                  · go_simp
                    obtain ⟨w48, hV⟩ : ∃ V, V = (w47.alloc (.cells #[.int .u8 110, .int .u8 (IntKind.u8.wrap (IntKind.i64.wrap (97 + (j : Int))))] 5)) := ⟨_, rfl⟩
                    rw [← hV]
                    have XT48 : Hid (Bx w48 ad [.int .i64 z1, .int .i64 z2, .int .i64 z3]) := by rw [hV]; exact XT47.out.alloc (.cells #[.int .u8 110, .int .u8 (IntKind.u8.wrap (IntKind.i64.wrap (97 + (j : Int))))] 5)
                    have D48 : Hid (GO w.heap.size wr.heap.size w48 o c us) := by rw [hV]; exact D47.out.later (below1 w47 (.cells #[.int .u8 110, .int .u8 (IntKind.u8.wrap (IntKind.i64.wrap (97 + (j : Int))))] 5))
                    have C48 : Hid (Cur w48 p co cap bs k47 sd47) := by rw [hV]; exact C47.out.later (below1 w47 (.cells #[.int .u8 110, .int .u8 (IntKind.u8.wrap (IntKind.i64.wrap (97 + (j : Int))))] 5))
                    have hR48 : Grew p w w48 := by rw [hV]; exact (hR47.trans (Grew.alloc p _ _))
                    have XN48 : Hid (Bx w48 xn [.string ⟨#[]⟩, .int .i64 0, .int .i64 0, .int .i64 0, .int .i64 0, .slice none 0 0]) := by rw [hV]; exact XN47.out.alloc (.cells #[.int .u8 110, .int .u8 (IntKind.u8.wrap (IntKind.i64.wrap (97 + (j : Int))))] 5)
                    have hz48 : w47.heap.size + 1 = w48.heap.size := by rw [hV]; simp
                    have XB48 : Hid (Bx w48 w47.heap.size [.int .u8 110, .int .u8 (IntKind.u8.wrap (IntKind.i64.wrap (97 + (j : Int))))]) := by rw [hV]; exact Bx.new [.int .u8 110, .int .u8 (IntKind.u8.wrap (IntKind.i64.wrap (97 + (j : Int))))] _ rfl
                    clear hV
                    obtain ⟨bq, hq48⟩ : ∃ q, q = w47.heap.size := ⟨_, rfl⟩
                    rw [← hq48] at XB48 ⊢
                    have hb48 : w47.heap.size ≤ bq ∧ bq + 1 = w48.heap.size := by omega
                    clear hq48 hz48
                    refine hK.out _ _ (fun _ => ⟨XT48.out.c 0 rfl, XT48.out.c 1 rfl, XT48.out.c 2 rfl⟩) (fun _ => ?_)
                    clear hK K XT47 D47 C47 hR47 XN47
                    refine Walks.weaken (S' := fun Y => (Y.cell? ⟨ad, 0, none⟩ = some (.int .i64 z1) ∧ Y.cell? ⟨ad, 1, none⟩ = some (.int .i64 z2) ∧ Y.cell? ⟨ad, 2, none⟩ = some (.int .i64 z3)) ∧ Y.cell? ⟨bq, 0, none⟩ = some (.int .u8 110) ∧ Y.cell? ⟨bq, 1, none⟩ = some (.int .u8 (IntKind.u8.wrap (IntKind.i64.wrap (97 + (j : Int)))))) (fun _ h => h.1) ?_
                    refine Walks.take (i := 4) (v := ?vz20) rfl (by kernel_rfl) (by kernel_rfl) (fun _ _ _ h => h) _ _ _ _ (by kernel_rfl) (by kernel_rfl) (Or.inl ⟨by rfl, ?hyz20⟩) ⟨⟨XT48.out.c 0 rfl, XT48.out.c 1 rfl, XT48.out.c 2 rfl⟩, XB48.out.c 0 rfl, XB48.out.c 1 rfl⟩ ?restz20
                    case hyz20 => (intro w' hSw; (have hcv := conv_two _ _ w' bq hSw.2.1 hSw.2.2); (try dsimp only at hSw); go_simp <;> with_reducible rfl)
                    refine Walks.take (i := 9) (v := ?vz21) rfl (by kernel_rfl) (by kernel_rfl) (fun _ _ _ h => h) _ _ _ _ (by kernel_rfl) (by kernel_rfl) (Or.inl ⟨by rfl, ?hyz21⟩) ⟨⟨XT48.out.c 0 rfl, XT48.out.c 1 rfl, XT48.out.c 2 rfl⟩, XB48.out.c 0 rfl, XB48.out.c 1 rfl⟩ ?restz21
                    case hyz21 => (intro w' hSw; (try dsimp only at hSw); go_simp <;> with_reducible rfl)
                    refine Walks.one (i := 11) (o := _) (by kernel_rfl) rfl (fun K hK => ?_)
                    have n0 := XN48.out.c 0 rfl
                    have nf0 := XN48.out.f 0 rfl
                    have n1 := XN48.out.c 1 rfl
                    have nf1 := XN48.out.f 1 rfl
                    have n2 := XN48.out.c 2 rfl
                    have nf2 := XN48.out.f 2 rfl
                    have n3 := XN48.out.c 3 rfl
                    have nf3 := XN48.out.f 3 rfl
                    have n4 := XN48.out.c 4 rfl
                    have nf4 := XN48.out.f 4 rfl
                    have n5 := XN48.out.c 5 rfl
                    have nf5 := XN48.out.f 5 rfl
                    have nz := XN48.out.size
                    go_simp
                    have DF := hid ((((((D48.out.setOff (a := ⟨xn, 0, none⟩) (by dsimp only; omega) (.string (two 110 (IntKind.u8.wrap (IntKind.i64.wrap (97 + (j : Int))))))).setOff (a := ⟨xn, 1, none⟩) (by dsimp only; omega) (.int .i64 z1)).setOff (a := ⟨xn, 2, none⟩) (by dsimp only; omega) (.int .i64 z2)).setOff (a := ⟨xn, 3, none⟩) (by dsimp only; omega) (.int .i64 z3)).setOff (a := ⟨xn, 4, none⟩) (by dsimp only; omega) (.int .i64 (IntKind.i64.wrap (3 + y)))).setOff (a := ⟨xn, 5, none⟩) (by dsimp only; omega) (.slice none 0 0))
                    have CF := hid ((((((C48.out.other (a := ⟨xn, 0, none⟩) (by dsimp only; omega) (.string (two 110 (IntKind.u8.wrap (IntKind.i64.wrap (97 + (j : Int))))))).other (a := ⟨xn, 1, none⟩) (by dsimp only; omega) (.int .i64 z1)).other (a := ⟨xn, 2, none⟩) (by dsimp only; omega) (.int .i64 z2)).other (a := ⟨xn, 3, none⟩) (by dsimp only; omega) (.int .i64 z3)).other (a := ⟨xn, 4, none⟩) (by dsimp only; omega) (.int .i64 (IntKind.i64.wrap (3 + y)))).other (a := ⟨xn, 5, none⟩) (by dsimp only; omega) (.slice none 0 0))
                    have RF := ((((((hR48.set (a := ⟨xn, 0, none⟩) (by dsimp only; omega) (.string (two 110 (IntKind.u8.wrap (IntKind.i64.wrap (97 + (j : Int))))))).set (a := ⟨xn, 1, none⟩) (by dsimp only; omega) (.int .i64 z1)).set (a := ⟨xn, 2, none⟩) (by dsimp only; omega) (.int .i64 z2)).set (a := ⟨xn, 3, none⟩) (by dsimp only; omega) (.int .i64 z3)).set (a := ⟨xn, 4, none⟩) (by dsimp only; omega) (.int .i64 (IntKind.i64.wrap (3 + y)))).set (a := ⟨xn, 5, none⟩) (by dsimp only; omega) (.slice none 0 0))
                    have XF := hid ((((((XN48.out.set 0 (.string (two 110 (IntKind.u8.wrap (IntKind.i64.wrap (97 + (j : Int))))))).set 1 (.int .i64 z1)).set 2 (.int .i64 z2)).set 3 (.int .i64 z3)).set 4 (.int .i64 (IntKind.i64.wrap (3 + y)))).set 5 (.slice none 0 0))
                    refine hK.out _ _ (fun h => absurd h (by decide)) (fun _ => ?_)
                    clear hK K n0 n1 n2 n3 n4 n5 nf0 nf1 nf2 nf3 nf4 nf5
                    refine Walks.done (by kernel_rfl) ?_ _
                    go_wp2
                    go_meet
                    exact ⟨xn, two 110 (IntKind.u8.wrap (IntKind.i64.wrap (97 + (j : Int)))), z1, z2, z3, _, k47, sd47, rfl, by rw [two_size]; omega, by omega, by omega, by simp <;> omega, XF, DF, CF, RF⟩
            case rest =>
              clear  XT45 D45 C45 hR45 hz45 hk2 hsz2
              obtain ⟨xp, nm, kd, sa, sb, cp, k3, sd3, rfl, hnm, hk3, hx0, hxs, XX65, D65, C65, hR65⟩ := hcut
              rename World => we
              have hz65 : wr.heap.size ≤ we.heap.size := by omega
              obtain ⟨e0, he1, he2⟩ : ∃ e0, xp < e0 ∧ e0 ≤ we.heap.size := ⟨we.heap.size, hxs, Nat.le_refl _⟩
              have E65 : Hid (kI.RW e0 we.heap.size we none 0 []) := hid Kind.RW.nil
              have x0 := XX65.out.c 0 rfl
              have xf0 := XX65.out.f 0 rfl
              have x1 := XX65.out.c 1 rfl
              have xf1 := XX65.out.f 1 rfl
              have x2 := XX65.out.c 2 rfl
              have xf2 := XX65.out.f 2 rfl
              have x3 := XX65.out.c 3 rfl
              have xf3 := XX65.out.f 3 rfl
              have x4 := XX65.out.c 4 rfl
              have xf4 := XX65.out.f 4 rfl
              have x5 := XX65.out.c 5 rfl
              have xf5 := XX65.out.f 5 rfl
              have xz := XX65.out.size
              go_wp2
              clear x0 xf0 x1 xf1 x2 xf2 x3 xf3 x4 xf4 x5 xf5 xz
              go_loopw [8] (fun i8 wr2 => ∃ (q : Nat) (k2 : Nat) (sd2 : Int) (nxo : Option Addr) (nxc : Nat) (nx : List Int), i8 = .int .i64 (q : Int) ∧ j + 1 ≤ q ∧ q ≤ m ∧ nx.length + (j + 1) ≤ q ∧ (nx = [] → nxo = none ∧ nxc = 0) ∧ k2 ≤ k1 + 40 + 4 * q ∧ Hid (Bx wr2 xp [.string nm, .int .i64 kd, .int .i64 sa, .int .i64 sb, .int .i64 cp, .slice nxo nx.length nxc]) ∧ Hid (GO w.heap.size wr.heap.size wr2 o c us) ∧ Hid (kI.RW e0 wr2.heap.size wr2 nxo nxc nx) ∧ Hid (Cur wr2 p co cap bs k2 sd2) ∧ Grew p w wr2 ∧ e0 ≤ wr2.heap.size) (fun i _ => m - (intOf i).toNat)
              case atStart => exact ⟨j + 1, k3, sd3, none, 0, [], by go_num, by omega, by omega, by simp, fun _ => ⟨rfl, rfl⟩, by omega, XX65, D65, E65, C65, hR65, by omega⟩
              case round =>
                clear XX65 D65 E65 C65 hR65 hz65 hxs he2
                obtain ⟨q, k2, sd2, nxo, nxc, nx, rfl, hq1, hq2, hnl, hnil, hk2, XX85, D85, E85, C85, hR85, hs2⟩ := hrel
                rename World => wq
                have hz85 : wr.heap.size ≤ wq.heap.size := by omega
                by_cases hqm : q < m
                · have hq3 : decide ((q : Int) < (m : Int)) = true := by simp <;> omega
                  have x0 := XX85.out.c 0 rfl
                  have xf0 := XX85.out.f 0 rfl
                  have x1 := XX85.out.c 1 rfl
                  have xf1 := XX85.out.f 1 rfl
                  have x2 := XX85.out.c 2 rfl
                  have xf2 := XX85.out.f 2 rfl
                  have x3 := XX85.out.c 3 rfl
                  have xf3 := XX85.out.f 3 rfl
                  have x4 := XX85.out.c 4 rfl
                  have xf4 := XX85.out.f 4 rfl
                  have x5 := XX85.out.c 5 rfl
                  have xf5 := XX85.out.f 5 rfl
                  have xz := XX85.out.size
                  go_wp2_with fail
                  clear x0 xf0 x1 xf1 x2 xf2 x3 xf3 x4 xf4 x5 xf5 xz
                  refine (one_any 3 p co cap bs k2 sd2 wq hl (by omega) C85.out).mono ?_
                  rintro e w86 ⟨⟨b3, rfl⟩, hD⟩
                  obtain ⟨k86, sd86, hk86, hC86, hg86, hsz86⟩ := hD.grew
                  have XX86 := hid (XX85.out.grew hg86 (by omega))
                  have D86 := hid (D85.out.grew hg86 (by omega))
                  have E86 := hid (E85.out.grew hg86 (by omega))
                  have C86 := hid hC86
                  have hR86 : Grew p w w86 := hR85.trans hg86
                  have hz86 : wq.heap.size ≤ w86.heap.size := hg86.size
                  clear XX85 D85 E85 C85 hD hg86 hC86 hsz86
                  cases b3
                  · by_cases hqj : q = j + 1
                    · have hq4 : ((q : Int) == (j : Int) + 1) = true := by simp <;> omega
                      clear hqj
                      have x0 := XX86.out.c 0 rfl
                      have xf0 := XX86.out.f 0 rfl
                      have x1 := XX86.out.c 1 rfl
                      have xf1 := XX86.out.f 1 rfl
                      have x2 := XX86.out.c 2 rfl
                      have xf2 := XX86.out.f 2 rfl
                      have x3 := XX86.out.c 3 rfl
                      have xf3 := XX86.out.f 3 rfl
                      have x4 := XX86.out.c 4 rfl
                      have xf4 := XX86.out.f 4 rfl
                      have x5 := XX86.out.c 5 rfl
                      have xf5 := XX86.out.f 5 rfl
                      have xz := XX86.out.size
                      go_wp2_with fail
                      clear x0 xf0 x1 xf1 x2 xf2 x3 xf3 x4 xf4 x5 xf5 xz
                      refine (one_any 2 p co cap bs k86 sd86 w86 hl (by omega) C86.out).mono ?_
                      rintro e w87 ⟨⟨b5, rfl⟩, hD⟩
                      obtain ⟨k87, sd87, hk87, hC87, hg87, hsz87⟩ := hD.grew
                      have XX87 := hid (XX86.out.grew hg87 (by omega))
                      have D87 := hid (D86.out.grew hg87 (by omega))
                      have E87 := hid (E86.out.grew hg87 (by omega))
                      have C87 := hid hC87
                      have hR87 : Grew p w w87 := hR86.trans hg87
                      have hz87 : w86.heap.size ≤ w87.heap.size := hg87.size
                      clear XX86 D86 E86 C86 hD hg87 hC87 hsz87
                      cases b5
                      · have x0 := XX87.out.c 0 rfl
                        have xf0 := XX87.out.f 0 rfl
                        have x1 := XX87.out.c 1 rfl
                        have xf1 := XX87.out.f 1 rfl
                        have x2 := XX87.out.c 2 rfl
                        have xf2 := XX87.out.f 2 rfl
                        have x3 := XX87.out.c 3 rfl
                        have xf3 := XX87.out.f 3 rfl
                        have x4 := XX87.out.c 4 rfl
                        have xf4 := XX87.out.f 4 rfl
                        have x5 := XX87.out.c 5 rfl
                        have xf5 := XX87.out.f 5 rfl
                        have xz := XX87.out.size
                        go_wp2
                        clear x0 xf0 x1 xf1 x2 xf2 x3 xf3 x4 xf4 x5 xf5 xz
                        go_roundw
                        case rel => exact ⟨q + 1, k87, sd87, nxo, nxc, nx, by go_num, by omega, by omega, by omega, hnil, by omega, XX87, D87, hid (E87.out.wide (Nat.le_refl _) (by omega)), C87, hR87, by omega⟩
                        case measure => simp [intOf] <;> omega
                      · have x0 := XX87.out.c 0 rfl
                        have xf0 := XX87.out.f 0 rfl
                        have x1 := XX87.out.c 1 rfl
                        have xf1 := XX87.out.f 1 rfl
                        have x2 := XX87.out.c 2 rfl
                        have xf2 := XX87.out.f 2 rfl
                        have x3 := XX87.out.c 3 rfl
                        have xf3 := XX87.out.f 3 rfl
                        have x4 := XX87.out.c 4 rfl
                        have xf4 := XX87.out.f 4 rfl
                        have x5 := XX87.out.c 5 rfl
                        have xf5 := XX87.out.f 5 rfl
                        have xz := XX87.out.size
                        have XA := hid (XX87.out.alloc (.cells #[.int .i64 (q : Int)] 3))
                        have DA := hid (D87.out.later (below1 w87 (.cells #[.int .i64 (q : Int)] 3)))
                        have EA := hid (E87.out.later (below1 w87 (.cells #[.int .i64 (q : Int)] 3)))
                        have CA := hid (C87.out.later (below1 w87 (.cells #[.int .i64 (q : Int)] 3)))
                        have hRA : Grew p w (w87.alloc (.cells #[.int .i64 (q : Int)] 3)) := hR87.trans (Grew.alloc p _ _)
                        have HN : Hid (kI.In (w87.heap.size + 1) (w87.alloc (.cells #[.int .i64 (q : Int)] 3)) (some ⟨w87.heap.size, 0, none⟩) [(q : Int)]) := int_one (by omega) ((Bx.new (w := w87) [.int .i64 (q : Int)] 3 rfl).c 0 rfl)
                        have hll : nx.length + 1 ≤ 4194304 := by omega
                        go_wp2_with (at_builtin; refine Kind.app kI_ok (w87.alloc (.cells #[.int .i64 (q : Int)] 3)) rfl (.tmp 63) (.tmp 65) rfl e0 (.slice nxo nx.length nxc) nx rfl EA.out.1 (by simp <;> omega) (some ⟨w87.heap.size, 0, none⟩) [(q : Int)] 1 1 rfl rfl (by simp) _ HN.out hll ?_; intro v5 w5 hO5 hB5 hG5 hn5; obtain ⟨ta, tc, rfl, hO6⟩ := hO5.as; obtain ⟨zs, hzs⟩ : ∃ zs, zs = nx ++ [(q : Int)] := ⟨_, rfl⟩; have HZL : Hid (zs.length = nx.length + 1 ∧ zs ≠ []) := (by rw [Hid, hzs]; simp); rw [← hzs] at hO6 ⊢; have X5 := hid (XA.out.below hB5 (by omega)); have D5 := hid (DA.out.below hB5 (by omega)); have E5 := hid (Kind.RW.of hO6); have C5 := hid (CA.out.below hB5 (by omega)); have hR5 := hRA.of_below2 hB5 (by omega); have hs5 : w87.heap.size + 1 ≤ w5.heap.size := (by have := hG5.size; simpa using this); clear hO5 hO6 hB5 hG5 hn5 hzs XA DA EA CA hRA HN; have y0 := X5.out.c 5 rfl; have yf := X5.out.f 5 rfl; have yz := X5.out.size)
                        have X6 : Hid (Bx (w5.setCell ⟨xp, 5, none⟩ (.slice ta zs.length tc)) xp [.string nm, .int .i64 kd, .int .i64 sa, .int .i64 sb, .int .i64 cp, .slice ta zs.length tc]) := hid (X5.out.set 5 (.slice ta zs.length tc))
                        have D6 := hid (D5.out.setOff (a := ⟨xp, 5, none⟩) (by dsimp only; omega) (.slice ta zs.length tc))
                        have C6 := hid (C5.out.other (a := ⟨xp, 5, none⟩) (by dsimp only; omega) (.slice ta zs.length tc))
                        have E6 := hid (E5.out.setOff (a := ⟨xp, 5, none⟩) (by dsimp only; omega) (.slice ta zs.length tc))
                        have hR6 := hR5.set (a := ⟨xp, 5, none⟩) (by dsimp only; omega) (.slice ta zs.length tc)
                        clear X5 D5 C5 E5 hR5
                        go_roundw
                        case rel => exact ⟨q + 1, k87, sd87, ta, tc, zs, by go_num, by omega, by omega, by have := HZL.out.1; omega, fun e => absurd e HZL.out.2, by omega, X6, D6, hid (E6.out.wide (Nat.le_refl _) (by simp <;> omega)), C6, hR6, by simp <;> omega⟩
                        case measure => simp [intOf] <;> omega
                    · have hq4 : ((q : Int) == (j : Int) + 1) = false := by simp <;> omega
                      clear hqj
                      have x0 := XX86.out.c 0 rfl
                      have xf0 := XX86.out.f 0 rfl
                      have x1 := XX86.out.c 1 rfl
                      have xf1 := XX86.out.f 1 rfl
                      have x2 := XX86.out.c 2 rfl
                      have xf2 := XX86.out.f 2 rfl
                      have x3 := XX86.out.c 3 rfl
                      have xf3 := XX86.out.f 3 rfl
                      have x4 := XX86.out.c 4 rfl
                      have xf4 := XX86.out.f 4 rfl
                      have x5 := XX86.out.c 5 rfl
                      have xf5 := XX86.out.f 5 rfl
                      have xz := XX86.out.size
                      go_wp2
                      clear x0 xf0 x1 xf1 x2 xf2 x3 xf3 x4 xf4 x5 xf5 xz
                      go_roundw
                      case rel => exact ⟨q + 1, k86, sd86, nxo, nxc, nx, by go_num, by omega, by omega, by omega, hnil, by omega, XX86, D86, hid (E86.out.wide (Nat.le_refl _) (by omega)), C86, hR86, by omega⟩
                      case measure => simp [intOf] <;> omega
                  · have x0 := XX86.out.c 0 rfl
                    have xf0 := XX86.out.f 0 rfl
                    have x1 := XX86.out.c 1 rfl
                    have xf1 := XX86.out.f 1 rfl
                    have x2 := XX86.out.c 2 rfl
                    have xf2 := XX86.out.f 2 rfl
                    have x3 := XX86.out.c 3 rfl
                    have xf3 := XX86.out.f 3 rfl
                    have x4 := XX86.out.c 4 rfl
                    have xf4 := XX86.out.f 4 rfl
                    have x5 := XX86.out.c 5 rfl
                    have xf5 := XX86.out.f 5 rfl
                    have xz := XX86.out.size
                    have XA := hid (XX86.out.alloc (.cells #[.int .i64 (q : Int)] 3))
                    have DA := hid (D86.out.later (below1 w86 (.cells #[.int .i64 (q : Int)] 3)))
                    have EA := hid (E86.out.later (below1 w86 (.cells #[.int .i64 (q : Int)] 3)))
                    have CA := hid (C86.out.later (below1 w86 (.cells #[.int .i64 (q : Int)] 3)))
                    have hRA : Grew p w (w86.alloc (.cells #[.int .i64 (q : Int)] 3)) := hR86.trans (Grew.alloc p _ _)
                    have HN : Hid (kI.In (w86.heap.size + 1) (w86.alloc (.cells #[.int .i64 (q : Int)] 3)) (some ⟨w86.heap.size, 0, none⟩) [(q : Int)]) := int_one (by omega) ((Bx.new (w := w86) [.int .i64 (q : Int)] 3 rfl).c 0 rfl)
                    have hll : nx.length + 1 ≤ 4194304 := by omega
                    go_wp2_with (at_builtin; refine Kind.app kI_ok (w86.alloc (.cells #[.int .i64 (q : Int)] 3)) rfl (.tmp 63) (.tmp 65) rfl e0 (.slice nxo nx.length nxc) nx rfl EA.out.1 (by simp <;> omega) (some ⟨w86.heap.size, 0, none⟩) [(q : Int)] 1 1 rfl rfl (by simp) _ HN.out hll ?_; intro v5 w5 hO5 hB5 hG5 hn5; obtain ⟨ta, tc, rfl, hO6⟩ := hO5.as; obtain ⟨zs, hzs⟩ : ∃ zs, zs = nx ++ [(q : Int)] := ⟨_, rfl⟩; have HZL : Hid (zs.length = nx.length + 1 ∧ zs ≠ []) := (by rw [Hid, hzs]; simp); rw [← hzs] at hO6 ⊢; have X5 := hid (XA.out.below hB5 (by omega)); have D5 := hid (DA.out.below hB5 (by omega)); have E5 := hid (Kind.RW.of hO6); have C5 := hid (CA.out.below hB5 (by omega)); have hR5 := hRA.of_below2 hB5 (by omega); have hs5 : w86.heap.size + 1 ≤ w5.heap.size := (by have := hG5.size; simpa using this); clear hO5 hO6 hB5 hG5 hn5 hzs XA DA EA CA hRA HN; have y0 := X5.out.c 5 rfl; have yf := X5.out.f 5 rfl; have yz := X5.out.size)
                    have X6 : Hid (Bx (w5.setCell ⟨xp, 5, none⟩ (.slice ta zs.length tc)) xp [.string nm, .int .i64 kd, .int .i64 sa, .int .i64 sb, .int .i64 cp, .slice ta zs.length tc]) := hid (X5.out.set 5 (.slice ta zs.length tc))
                    have D6 := hid (D5.out.setOff (a := ⟨xp, 5, none⟩) (by dsimp only; omega) (.slice ta zs.length tc))
                    have C6 := hid (C5.out.other (a := ⟨xp, 5, none⟩) (by dsimp only; omega) (.slice ta zs.length tc))
                    have E6 := hid (E5.out.setOff (a := ⟨xp, 5, none⟩) (by dsimp only; omega) (.slice ta zs.length tc))
                    have hR6 := hR5.set (a := ⟨xp, 5, none⟩) (by dsimp only; omega) (.slice ta zs.length tc)
                    clear X5 D5 C5 E5 hR5
                    go_roundw
                    case rel => exact ⟨q + 1, k86, sd86, ta, tc, zs, by go_num, by omega, by omega, by have := HZL.out.1; omega, fun e => absurd e HZL.out.2, by omega, X6, D6, hid (E6.out.wide (Nat.le_refl _) (by simp <;> omega)), C6, hR6, by simp <;> omega⟩
                    case measure => simp [intOf] <;> omega
                · obtain rfl : q = m := by omega
                  have hq3 : decide ((q : Int) < (q : Int)) = false := by simp
                  have x0 := XX85.out.c 0 rfl
                  have xf0 := XX85.out.f 0 rfl
                  have x1 := XX85.out.c 1 rfl
                  have xf1 := XX85.out.f 1 rfl
                  have x2 := XX85.out.c 2 rfl
                  have xf2 := XX85.out.f 2 rfl
                  have x3 := XX85.out.c 3 rfl
                  have xf3 := XX85.out.f 3 rfl
                  have x4 := XX85.out.c 4 rfl
                  have xf4 := XX85.out.f 4 rfl
                  have x5 := XX85.out.c 5 rfl
                  have xf5 := XX85.out.f 5 rfl
                  have xz := XX85.out.size
                  have DA := hid (D85.out.later (below1 wq (.cells #[.string nm, .int .i64 kd, .int .i64 sa, .int .i64 sb, .int .i64 cp, .slice nxo nx.length nxc] 34)))
                  have EA := hid ((E85.out.later (below1 wq (.cells #[.string nm, .int .i64 kd, .int .i64 sa, .int .i64 sb, .int .i64 cp, .slice nxo nx.length nxc] 34))).wide (lo' := wr.heap.size) (hi' := (wq.alloc (.cells #[.string nm, .int .i64 kd, .int .i64 sa, .int .i64 sb, .int .i64 cp, .slice nxo nx.length nxc] 34)).heap.size) (by omega) (by simp))
                  have CA := hid (C85.out.later (below1 wq (.cells #[.string nm, .int .i64 kd, .int .i64 sa, .int .i64 sb, .int .i64 cp, .slice nxo nx.length nxc] 34)))
                  have hRA : Grew p w (wq.alloc (.cells #[.string nm, .int .i64 kd, .int .i64 sa, .int .i64 sb, .int .i64 cp, .slice nxo nx.length nxc] 34)) := hR85.trans (Grew.alloc p _ _)
                  have HN : Hid (hNode.In (wq.heap.size + 1) (wq.alloc (.cells #[.string nm, .int .i64 kd, .int .i64 sa, .int .i64 sb, .int .i64 cp, .slice nxo nx.length nxc] 34)) (some ⟨wq.heap.size, 0, none⟩) [((nm, kd, sa, sb, cp, (nxo, nxc, nx)) : LNode)]) := hNode_one (by omega) (Bx.new _ _ rfl)
                  have hll : us.length + 1 ≤ 4194304 := by omega
                  go_wp2_with (at_builtin; refine Kind.app hNode_ok (wq.alloc (.cells #[.string nm, .int .i64 kd, .int .i64 sa, .int .i64 sb, .int .i64 cp, .slice nxo nx.length nxc] 34)) rfl (.tmp 68) (.tmp 70) rfl w.heap.size (.slice o us.length c) us rfl DA.out.2.1 (by simp <;> omega) (some ⟨wq.heap.size, 0, none⟩) [((nm, kd, sa, sb, cp, (nxo, nxc, nx)) : LNode)] 1 1 rfl rfl (by simp) _ HN.out hll ?_; intro v5 w5 hO5 hB5 hG5 hn5; obtain ⟨ta, tc, rfl, hGO⟩ := gw_app DA.out EA.out hnil (by omega) (by simp <;> omega) hO5 hG5; obtain ⟨zs, hzs⟩ : ∃ zs, zs = us ++ [((nm, kd, sa, sb, cp, (nxo, nxc, nx)) : LNode)] := ⟨_, rfl⟩; have hzl : Hid (LG (j + 1) zs) := hid (by rw [hzs]; exact HLG.out.snoc hnm (by dsimp only; omega)); rw [← hzs] at hGO ⊢; have D5 := hid hGO; have C5 := hid (CA.out.below hB5 (by omega)); have hR5 := hRA.of_below2 hB5 (by omega); clear hO5 hB5 hG5 hn5 hGO hzs DA EA CA hRA HN)
                  go_roundw
                  case rel => exact ⟨j + 1, k2, sd2, ta, tc, zs, rfl, by go_num, by omega, hzl, by omega, D5, C5, hR5⟩
                  case measure => simp [intOf] <;> omega
      · obtain rfl : j = m := by omega
        have hm2 : decide ((j : Int) < (j : Int)) = false := by simp
        have hpos : 0 < us.length := by have := HLG.out.1; omega
        go_wp2_with fail
        refine (pick_any 50 p co cap bs k1 sd1 wr hl (by omega) C3.out).mono ?_
        rintro e w4 ⟨⟨y, rfl, h0y, h1y⟩, hD⟩
        obtain ⟨k4, sd4, hk4, hC4, hg4, hsz4⟩ := hD.grew
        have D4 := hid (D3.out.grew hg4 (by omega))
        have C4 := hid hC4
        have hR4 : Grew p w w4 := hR3.trans hg4
        have hz4 : wr.heap.size ≤ w4.heap.size := hg4.size
        clear D3 C3 hD hg4 hC4 hsz4
        have hy5 : y = 0 ∨ y = 1 ∨ y = 2 ∨ y = 3 ∨ y = 4 ∨ (y ≠ 0 ∧ y ≠ 1 ∧ y ≠ 2 ∧ y ≠ 3 ∧ y ≠ 4) := by omega
        clear h0y h1y
        rcases hy5 with rfl | rfl | rfl | rfl | rfl | ⟨y0, y1, y2, y3, y4⟩
        · obtain ⟨w5, hV⟩ : ∃ V, V = w4.alloc (.cells #[.string ⟨#[]⟩, .string ⟨#[110, 49]⟩, .string ⟨#[110, 98]⟩] 9) := ⟨_, rfl⟩
          have D5 := hid (D4.out.later (below1 w4 (.cells #[.string ⟨#[]⟩, .string ⟨#[110, 49]⟩, .string ⟨#[110, 98]⟩] 9)))
          rw [← hV] at D5
          have C5 := hid (C4.out.later (below1 w4 (.cells #[.string ⟨#[]⟩, .string ⟨#[110, 49]⟩, .string ⟨#[110, 98]⟩] 9)))
          rw [← hV] at C5
          have hR5 : Grew p w w5 := by rw [hV]; exact hR4.trans (Grew.alloc p _ _)
          have hz5 : w4.heap.size ≤ w5.heap.size := by rw [hV]; simp
          have H5 := hid hV
          clear hV D4 C4
          have XU5 : Hid (Bx w5 w4.heap.size [.string ⟨#[]⟩, .string ⟨#[110, 49]⟩, .string ⟨#[110, 98]⟩]) := by rw [H5.out]; exact Bx.new [.string ⟨#[]⟩, .string ⟨#[110, 49]⟩, .string ⟨#[110, 98]⟩] _ rfl
          have hy5 : w4.heap.size < w5.heap.size := XU5.out.size
          have u0 := XU5.out.c 0 rfl
          have uf0 := XU5.out.f 0 rfl
          have u1 := XU5.out.c 1 rfl
          have uf1 := XU5.out.f 1 rfl
          have u2 := XU5.out.c 2 rfl
          have uf2 := XU5.out.f 2 rfl
          have uz := XU5.out.size
          go_wp2_with fail
          clear u0 uf0 u1 uf1 u2 uf2 uz
          rw [← H5.out]
          clear H5
          refine (of_any [⟨#[]⟩, ⟨#[110, 49]⟩, ⟨#[110, 98]⟩] w4.heap.size p co cap bs k4 sd4 w5 hl (by omega) C5.out (by simp) (by simp) XU5.out (by omega)).mono ?_
          rintro e w6 ⟨⟨z, hzm, rfl⟩, hD⟩
          obtain ⟨k6, sd6, hk6, hC6, hg6, hsz6⟩ := hD.grew
          have XU6 := hid (XU5.out.grew hg6 (by omega))
          have D6 := hid (D5.out.grew hg6 (by omega))
          have C6 := hid hC6
          have hR6 : Grew p w w6 := hR5.trans hg6
          have hz6 : w5.heap.size ≤ w6.heap.size := hg6.size
          clear XU5 D5 C5 hD hg6 hC6 hsz6
          have hzs : z.size ≤ 2 := by simp at hzm; rcases hzm with rfl | rfl | rfl <;> decide
          clear hzm
          obtain ⟨g, rfl, hg1, hg2, hg3, ⟨hc0, hc4, hc5⟩, hgf, _, _⟩ := D6.out.1.head (k := 0) (by omega)
          have hrow := D6.out.1.row (j := 0) (by omega)
          obtain ⟨⟨nm, kd, sa, sb, cp, ⟨nxo, nxc, nx⟩⟩, ex⟩ : ∃ v, v = el us (0) := ⟨_, rfl⟩
          rw [← ex] at hc0 hc4 hc5 hrow
          dsimp only at hc0 hc4 hc5 hrow
          obtain ⟨hnm, hnl⟩ : nm.size ≤ 2 ∧ nx.length ≤ 11 := by have := HLG.out.2 _ (el_mem (show 0 < us.length by omega)); rw [← ex] at this; exact this
          have hI1 : (0 : Int) < (us.length : Int) := by omega
          have f0 := hgf 0
          have hP := D6.out.1.put hpos (i := 0) (x := ((z, kd, sa, sb, cp, (nxo, nxc, nx)) : LNode)) (v := .string z) (by omega) (by rw [← ex]; rfl) (by rw [← ex])
          simp only [Nat.zero_mul, Nat.zero_add] at hP f0 hc0 hc4 hc5
          clear ex hrow hgf
          go_wp2
          go_ret
          exact ⟨⟨some ⟨g, 0, none⟩, _, us.set 0 ((z, kd, sa, sb, cp, (nxo, nxc, nx)) : LNode), by rw [List.length_set]; rfl, HLG.out.set (by omega) (by dsimp only; omega) (by dsimp only; omega), hP.gd.wide (Nat.le_refl _) (by simp <;> omega)⟩, k6, sd6, by omega, (C6.out.other (a := ⟨g, 0, none⟩) (by dsimp only; omega) (.string z)), (hR6.set (a := ⟨g, 0, none⟩) (by dsimp only; omega) (.string z))⟩
        · obtain ⟨w5, hV⟩ : ∃ V, V = w4.alloc (.cells #[.int .i64 2, .int .i64 9] 3) := ⟨_, rfl⟩
          have D5 := hid (D4.out.later (below1 w4 (.cells #[.int .i64 2, .int .i64 9] 3)))
          rw [← hV] at D5
          have C5 := hid (C4.out.later (below1 w4 (.cells #[.int .i64 2, .int .i64 9] 3)))
          rw [← hV] at C5
          have hR5 : Grew p w w5 := by rw [hV]; exact hR4.trans (Grew.alloc p _ _)
          have hz5 : w4.heap.size ≤ w5.heap.size := by rw [hV]; simp
          have H5 := hid hV
          clear hV D4 C4
          have XU5 : Hid (Bx w5 w4.heap.size [.int .i64 2, .int .i64 9]) := by rw [H5.out]; exact Bx.new [.int .i64 2, .int .i64 9] _ rfl
          have hy5 : w4.heap.size < w5.heap.size := XU5.out.size
          have u0 := XU5.out.c 0 rfl
          have uf0 := XU5.out.f 0 rfl
          have u1 := XU5.out.c 1 rfl
          have uf1 := XU5.out.f 1 rfl
          have uz := XU5.out.size
          go_wp2_with fail
          clear u0 uf0 u1 uf1 uz
          rw [← H5.out]
          clear H5
          refine (among_in [2, 9] w4.heap.size p co cap bs k4 sd4 w5 hl (by omega) C5.out (by simp) (by simp) XU5.out (by omega)).mono ?_
          rintro e w6 ⟨⟨z, _, rfl⟩, hD⟩
          obtain ⟨k6, sd6, hk6, hC6, hg6, hsz6⟩ := hD.grew
          have XU6 := hid (XU5.out.grew hg6 (by omega))
          have D6 := hid (D5.out.grew hg6 (by omega))
          have C6 := hid hC6
          have hR6 : Grew p w w6 := hR5.trans hg6
          have hz6 : w5.heap.size ≤ w6.heap.size := hg6.size
          clear XU5 D5 C5 hD hg6 hC6 hsz6
          obtain ⟨g, rfl, hg1, hg2, hg3, ⟨hc0, hc4, hc5⟩, hgf, _, _⟩ := D6.out.1.head (k := 0) (by omega)
          have hrow := D6.out.1.row (j := 0) (by omega)
          obtain ⟨⟨nm, kd, sa, sb, cp, ⟨nxo, nxc, nx⟩⟩, ex⟩ : ∃ v, v = el us (0) := ⟨_, rfl⟩
          rw [← ex] at hc0 hc4 hc5 hrow
          dsimp only at hc0 hc4 hc5 hrow
          obtain ⟨hnm, hnl⟩ : nm.size ≤ 2 ∧ nx.length ≤ 11 := by have := HLG.out.2 _ (el_mem (show 0 < us.length by omega)); rw [← ex] at this; exact this
          have hI1 : (0 : Int) < (us.length : Int) := by omega
          have f4 := hgf 4
          have hP := D6.out.1.put hpos (i := 4) (x := ((nm, kd, sa, sb, z, (nxo, nxc, nx)) : LNode)) (v := .int .i64 z) (by omega) (by rw [← ex]; rfl) (by rw [← ex])
          simp only [Nat.zero_mul, Nat.zero_add] at hP f4 hc0 hc4 hc5
          clear ex hrow hgf
          go_wp2
          go_ret
          exact ⟨⟨some ⟨g, 0, none⟩, _, us.set 0 ((nm, kd, sa, sb, z, (nxo, nxc, nx)) : LNode), by rw [List.length_set]; rfl, HLG.out.set (by omega) (by dsimp only; omega) (by dsimp only; omega), hP.gd.wide (Nat.le_refl _) (by simp <;> omega)⟩, k6, sd6, by omega, (C6.out.other (a := ⟨g, 4, none⟩) (by dsimp only; omega) (.int .i64 z)), (hR6.set (a := ⟨g, 4, none⟩) (by dsimp only; omega) (.int .i64 z))⟩
        · obtain ⟨q, hq⟩ : ∃ q, us.length = q + 1 := ⟨us.length - 1, by omega⟩
          have hw1 : IntKind.i64.wrap ((us.length : Int) - 1) = (q : Int) := by rw [IntKind.wrap_i64] <;> omega
          have hqn : (q : Int) < (us.length : Int) := by omega
          have hql : q < us.length := by omega
          clear hq
          obtain ⟨g, rfl, hg1, hg2, hg3, ⟨hc0, hc4, hc5⟩, hgf, _, _⟩ := D4.out.1.head (k := q) (by omega)
          have hrow := D4.out.1.row (j := q) (by omega)
          obtain ⟨⟨nm, kd, sa, sb, cp, ⟨nxo, nxc, nx⟩⟩, ex⟩ : ∃ v, v = el us (q) := ⟨_, rfl⟩
          rw [← ex] at hc0 hc4 hc5 hrow
          dsimp only at hc0 hc4 hc5 hrow
          obtain ⟨hnm, hnl⟩ : nm.size ≤ 2 ∧ nx.length ≤ 11 := by have := HLG.out.2 _ (el_mem (show q < us.length by omega)); rw [← ex] at this; exact this
          have f5 := hgf 5
          have HROW := hid hrow
          have HEX := hid ex.symm
          clear hrow ex hc0 hc4 hgf
          go_upto_region 24 with fail
          refine wp_walks (zl := [21]) (S := fun Y => Y.cell? ⟨g, q * 6 + 5, none⟩ = some (.slice nxo nx.length nxc)) (by kernel_rfl) hc5 (fun hH => ?_)
          refine Walks.take (i := 0) (v := ?vz22) rfl (by kernel_rfl) (by kernel_rfl) (fun _ _ _ h => h) _ _ _ _ (by kernel_rfl) (by kernel_rfl) (Or.inl ⟨by rfl, ?hyz22⟩) hH ?restz22
          case hyz22 => (intro w' hSw; (try dsimp only at hSw); go_simp <;> with_reducible rfl)
          refine Walks.take (i := 1) (v := ?vz23) rfl (by kernel_rfl) (by kernel_rfl) (fun _ _ _ h => h) _ _ _ _ (by kernel_rfl) (by kernel_rfl) (Or.inl ⟨by rfl, ?hyz23⟩) hH ?restz23
          case hyz23 => (intro w' hSw; (try dsimp only at hSw); go_simp <;> with_reducible rfl)
          refine Walks.take (i := 4) (v := ?vz24) rfl (by kernel_rfl) (by kernel_rfl) (fun _ _ _ h => h) _ _ _ _ (by kernel_rfl) (by kernel_rfl) (Or.inl ⟨by rfl, ?hyz24⟩) hH ?restz24
          case hyz24 => (intro w' hSw; (try dsimp only at hSw); go_simp <;> with_reducible rfl)
          refine Walks.take (i := 5) (v := ?vz25) rfl (by kernel_rfl) (by kernel_rfl) (fun _ _ _ h => h) _ _ _ _ (by kernel_rfl) (by kernel_rfl) (Or.inl ⟨by rfl, ?hyz25⟩) hH ?restz25
          case hyz25 => (intro w' hSw; (try dsimp only at hSw); go_simp <;> with_reducible rfl)
          refine Walks.take (i := 11) (v := ?vz26) rfl (by kernel_rfl) (by kernel_rfl) (fun _ _ _ h => h) _ _ _ _ (by kernel_rfl) (by kernel_rfl) (Or.inl ⟨by rfl, ?hyz26⟩) hH ?restz26
          case hyz26 => (intro w' hSw; (try dsimp only at hSw); go_simp <;> with_reducible rfl)
          refine Walks.take (i := 12) (v := ?vz27) rfl (by kernel_rfl) (by kernel_rfl) (fun _ _ _ h => h) _ _ _ _ (by kernel_rfl) (by kernel_rfl) (Or.inl ⟨by rfl, ?hyz27⟩) hH ?restz27
          case hyz27 => (intro w' hSw; (try dsimp only at hSw); go_simp <;> with_reducible rfl)
          refine Walks.take (i := 2) (v := ?vz28) rfl (by kernel_rfl) (by kernel_rfl) (fun _ _ _ h => h) _ _ _ _ (by kernel_rfl) (by kernel_rfl) (Or.inl ⟨by rfl, ?hyz28⟩) hH ?restz28
          case hyz28 => (intro w' hSw; (try dsimp only at hSw); go_simp <;> with_reducible rfl)
          refine Walks.take (i := 3) (v := ?vz29) rfl (by kernel_rfl) (by kernel_rfl) (fun _ _ _ h => h) _ _ _ _ (by kernel_rfl) (by kernel_rfl) (Or.inl ⟨by rfl, ?hyz29⟩) hH ?restz29
          case hyz29 => (intro w' hSw; (try dsimp only at hSw); go_simp <;> with_reducible rfl)
          refine Walks.take (i := 6) (v := ?vz30) rfl (by kernel_rfl) (by kernel_rfl) (fun _ _ _ h => h) _ _ _ _ (by kernel_rfl) (by kernel_rfl) (Or.inl ⟨by rfl, ?hyz30⟩) hH ?restz30
          case hyz30 => (intro w' hSw; (try dsimp only at hSw); go_simp <;> with_reducible rfl)
          refine Walks.take (i := 7) (v := ?vz31) rfl (by kernel_rfl) (by kernel_rfl) (fun _ _ _ h => h) _ _ _ _ (by kernel_rfl) (by kernel_rfl) (Or.inl ⟨by rfl, ?hyz31⟩) hH ?restz31
          case hyz31 => (intro w' hSw; (try dsimp only at hSw); go_simp <;> with_reducible rfl)
          refine Walks.take (i := 8) (v := ?vz32) rfl (by kernel_rfl) (by kernel_rfl) (fun _ _ _ h => h) _ _ _ _ (by kernel_rfl) (by kernel_rfl) (Or.inl ⟨by rfl, ?hyz32⟩) hH ?restz32
          case hyz32 => (intro w' hSw; (try dsimp only at hSw); go_simp <;> with_reducible rfl)
          refine Walks.take (i := 9) (v := ?vz33) rfl (by kernel_rfl) (by kernel_rfl) (fun _ _ _ h => h) _ _ _ _ (by kernel_rfl) (by kernel_rfl) (Or.inl ⟨by rfl, ?hyz33⟩) hH ?restz33
          case hyz33 => (intro w' hSw; (try dsimp only at hSw); go_simp <;> with_reducible rfl)
          refine Walks.take (i := 10) (v := ?vz34) rfl (by kernel_rfl) (by kernel_rfl) (fun _ _ _ h => h) _ _ _ _ (by kernel_rfl) (by kernel_rfl) (Or.inl ⟨by rfl, ?hyz34⟩) hH ?restz34
          case hyz34 => (intro w' hSw; (try dsimp only at hSw); go_simp <;> with_reducible rfl)
          refine Walks.take (i := 13) (v := ?vz35) rfl (by kernel_rfl) (by kernel_rfl) (fun _ _ _ h => h) _ _ _ _ (by kernel_rfl) (by kernel_rfl) (Or.inl ⟨by rfl, ?hyz35⟩) hH ?restz35
          case hyz35 => (intro w' hSw; (try dsimp only at hSw); go_simp <;> with_reducible rfl)
          refine Walks.take (i := 14) (v := ?vz36) rfl (by kernel_rfl) (by kernel_rfl) (fun _ _ _ h => h) _ _ _ _ (by kernel_rfl) (by kernel_rfl) (Or.inl ⟨by rfl, ?hyz36⟩) hH ?restz36
          case hyz36 => (intro w' hSw; (try dsimp only at hSw); go_simp <;> with_reducible rfl)
          refine Walks.one (i := 15) (o := _) (by kernel_rfl) rfl (fun K hK => ?_)
          go_simp
          obtain ⟨w5, hV⟩ : ∃ V, V = (w4.alloc (.cells #[.int .i64 0, .int .i64 (-1), .int .i64 10, .int .i64 (q : Int)] 3)).drew := ⟨_, rfl⟩
          rw [← hV]
          have D5 : Hid (GO w.heap.size wr.heap.size w5 (some ⟨g, 0, none⟩) c us) := by rw [hV]; exact D4.out.later (below1 w4 (.cells #[.int .i64 0, .int .i64 (-1), .int .i64 10, .int .i64 (q : Int)] 3)).drew
          have C5 : Hid (Cur w5 p co cap bs k4 sd4) := by rw [hV]; exact C4.out.later (below1 w4 (.cells #[.int .i64 0, .int .i64 (-1), .int .i64 10, .int .i64 (q : Int)] 3)).drew
          have hR5 : Grew p w w5 := by rw [hV]; exact (hR4.trans (Grew.alloc p _ _)).drew
          have HROW5 : Hid (kI.RW w.heap.size wr.heap.size w5 nxo nxc nx) := by rw [hV]; exact HROW.out.later (below1 w4 (.cells #[.int .i64 0, .int .i64 (-1), .int .i64 10, .int .i64 (q : Int)] 3)).drew
          have hcc5 : w5.cell? ⟨g, q * 6 + 5, none⟩ = some (.slice nxo nx.length nxc) := by rw [hV]; exact ((below1 w4 (.cells #[.int .i64 0, .int .i64 (-1), .int .i64 10, .int .i64 (q : Int)] 3)).drew.cell (p := ⟨g, q * 6 + 5, none⟩) hg3).trans hc5
          have XU5 : Hid (Bx w5 w4.heap.size [.int .i64 0, .int .i64 (-1), .int .i64 10, .int .i64 (q : Int)]) := by rw [hV]; exact Bx.new [.int .i64 0, .int .i64 (-1), .int .i64 10, .int .i64 (q : Int)] _ rfl
          have hz5 : w4.heap.size + 1 = w5.heap.size := by rw [hV]; simp
          clear hV
          obtain ⟨uq, huq⟩ : ∃ q, q = w4.heap.size := ⟨_, rfl⟩
          rw [← huq] at XU5 ⊢
          have hu5 : w4.heap.size ≤ uq ∧ uq + 1 = w5.heap.size := by omega
          clear huq hz5
          refine hK.out _ _ (fun _ => hcc5) (fun _ => ?_)
          clear hK K hH hc5 HROW D4 C4 hR4
          refine Walks.one (i := 16) (o := _) (by kernel_rfl) rfl (fun K hK => ?_)
          go_simp
          refine (among_in [0, -1, 10, (q : Int)] uq p co cap bs k4 sd4 w5 hl (by omega) C5.out (by simp) (by simp) XU5.out (by omega)).mono ?_
          rintro e w6 ⟨⟨z, _, rfl⟩, hD⟩
          obtain ⟨k6, sd6, hk6, hC6, hg, hsz6⟩ := hD.grew
          have D6 := hid (D5.out.grew hg (by omega))
          have C6 := hid hC6
          have hR6 : Grew p w w6 := hR5.trans hg
          have HROW6 := hid (HROW5.out.grew hg (by omega))
          have hcc6 : w6.cell? ⟨g, q * 6 + 5, none⟩ = some (.slice nxo nx.length nxc) := (World.cell?_of_block (a := ⟨g, q * 6 + 5, none⟩) (hg.block g (by omega) (by omega))).trans hcc5
          have hgl6 : w5.heap.size ≤ w6.heap.size := hg.size
          refine hK.out _ _ (fun _ => hcc6) (fun _ => ?_)
          clear hK K hD hC6 hg hsz6 D5 C5 hR5 HROW5 hcc5 XU5
          refine Walks.one (i := 17) (o := _) (by kernel_rfl) rfl (fun K hK => ?_)
          go_simp
          obtain ⟨w7, hV⟩ : ∃ V, V = w6.alloc (.cells #[.int .i64 z] 3) := ⟨_, rfl⟩
          rw [← hV]
          have D7 : Hid (GO w.heap.size wr.heap.size w7 (some ⟨g, 0, none⟩) c us) := by rw [hV]; exact D6.out.later (below1 w6 (.cells #[.int .i64 z] 3))
          have C7 : Hid (Cur w7 p co cap bs k6 sd6) := by rw [hV]; exact C6.out.later (below1 w6 (.cells #[.int .i64 z] 3))
          have hR7 : Grew p w w7 := by rw [hV]; exact hR6.trans (Grew.alloc p _ _)
          have HROW : Hid (kI.RW w.heap.size wr.heap.size w7 nxo nxc nx) := by rw [hV]; exact HROW6.out.later (below1 w6 (.cells #[.int .i64 z] 3))
          have hc5 : w7.cell? ⟨g, q * 6 + 5, none⟩ = some (.slice nxo nx.length nxc) := by rw [hV]; exact ((below1 w6 (.cells #[.int .i64 z] 3)).cell (p := ⟨g, q * 6 + 5, none⟩) (by dsimp only; omega)).trans hcc6
          have HN : Hid (kI.In (w6.heap.size + 1) w7 (some ⟨w6.heap.size, 0, none⟩) [z]) := by rw [hV]; exact int_one (by omega) ((Bx.new (w := w6) [.int .i64 z] 3 rfl).c 0 rfl)
          have hz7 : w6.heap.size + 1 = w7.heap.size := by rw [hV]; simp
          clear hV
          obtain ⟨zq, hzq⟩ : ∃ q, q = w6.heap.size := ⟨_, rfl⟩
          rw [← hzq] at HN ⊢
          have hv7 : w6.heap.size ≤ zq ∧ zq + 1 = w7.heap.size := by omega
          clear hzq hz7
          refine hK.out _ _ (fun _ => hc5) (fun _ => ?_)
          clear hK K D6 C6 hR6 HROW6 hcc6
          obtain ⟨g2, e2, _, _, hg3b, _, hgfb, _, _⟩ := D7.out.1.head (k := q) hql
          simp at e2; subst e2
          clear f5 hg3
          have f5 := hgfb 5
          have hg3 := hg3b
          clear hgfb hg3b
          refine Walks.one (i := 18) (o := _) (by kernel_rfl) rfl (fun K hK => ?_)
          refine Kind.appZ kI_ok w7 (by rfl) (.tmp 102) (.tmp 109) (by rfl) w.heap.size (.slice nxo nx.length nxc) nx (by kernel_rfl) (by exact HROW.out.1) (by exact hR7.size) (some ⟨zq, 0, none⟩) [z] 1 1 (by kernel_rfl) rfl (by simp) _ HN.out (by simp; omega) ?_
          intro v5 w5 hO5 hB5 hG5 hN5
          obtain ⟨ta, tc, rfl, hO6⟩ := hO5.as
          obtain ⟨zs, hzs⟩ : ∃ zs, zs = nx ++ [z] := ⟨_, rfl⟩
          have HZL : Hid (zs.length ≤ 22) := by rw [Hid, hzs]; simp; omega
          rw [← hzs] at hO6 hN5 ⊢
          clear hzs
          have hG6 : w7.grownBy w5 (Value.slice nxo nx.length nxc).ownBlock := ⟨hG5.os, hG5.tape, hG5.output, hG5.size, hG5.block⟩
          have hbl := D7.out.1.headKept (k := q) (x := (nxo, nxc, nx)) (by omega) HROW.out hG6
          have c5 : w5.cell? ⟨g, q * 6 + 5, none⟩ = some (.slice nxo nx.length nxc) := (World.cell?_of_block (a := ⟨g, q * 6 + 5, none⟩) hbl).trans hc5
          have e5 : w5.frozen? ⟨g, q * 6 + 5, none⟩ = false := (World.frozen?_of_block (a := ⟨g, q * 6 + 5, none⟩) hbl).trans f5
          have hg5 : g < w5.heap.size := Nat.lt_of_lt_of_le hg3 hG6.size
          have HP := hid (D7.out.1.putRow (by omega) (k := q) (by omega) (nm := nm) (kd := kd) (sa := sa) (sb := sb) (cp := cp) (x := (nxo, nxc, nx)) HEX.out hO6 hG6 hN5)
          have hB6 : Below w.heap.size w7 w5 := hB5
          have CF := hid ((C7.out.below hB6 hp).other (a := ⟨g, q * 6 + 5, none⟩) (by dsimp only; omega) (.slice ta zs.length tc))
          have RF := (hR7.of_below2 hB6 (Nat.le_refl _)).set (a := ⟨g, q * 6 + 5, none⟩) (by dsimp only; omega) (.slice ta zs.length tc)
          have hsz5 := hG6.size
          clear hO5 hO6 hB5 hG5 hN5 hG6 hbl hB6
          refine hK.out _ _ (fun _ => c5) (fun _ => ?_)
          clear hK K
          refine Walks.one (i := 19) (o := _) (by kernel_rfl) rfl (fun K hK => ?_)
          go_simp
          refine hK.out _ _ (fun _ => c5) (fun _ => ?_)
          clear hK K
          refine Walks.one (i := 20) (o := _) (by kernel_rfl) rfl (fun K hK => ?_)
          go_simp
          refine hK.out _ _ (fun _ => c5) (fun _ => ?_)
          clear hK K
          refine Walks.one (i := 21) (o := _) (by kernel_rfl) rfl (fun K hK => ?_)
          go_simp
          refine hK.out _ _ (fun h => absurd h (by decide)) (fun _ => ?_)
          clear hK K
          refine Walks.done (by kernel_rfl) ?_ _
          go_wp2
          go_ret
          exact ⟨⟨some ⟨g, 0, none⟩, _, us.set (q) (nm, kd, sa, sb, cp, (ta, tc, zs)), by rw [List.length_set]; rfl, HLG.out.set (by omega) (by dsimp only; omega) HZL.out, GD.wide HP.out (Nat.le_refl _) (by simp)⟩, k6, sd6, by omega, CF.out, RF⟩
        · obtain ⟨g, rfl, hg1, hg2, hg3, ⟨hc0, hc4, hc5⟩, hgf, _, _⟩ := D4.out.1.head (k := 0) (by omega)
          have hrow := D4.out.1.row (j := 0) (by omega)
          obtain ⟨⟨nm, kd, sa, sb, cp, ⟨nxo, nxc, nx⟩⟩, ex⟩ : ∃ v, v = el us (0) := ⟨_, rfl⟩
          rw [← ex] at hc0 hc4 hc5 hrow
          dsimp only at hc0 hc4 hc5 hrow
          obtain ⟨hnm, hnl⟩ : nm.size ≤ 2 ∧ nx.length ≤ 11 := by have := HLG.out.2 _ (el_mem (show 0 < us.length by omega)); rw [← ex] at this; exact this
          have hI1 : (0 : Int) < (us.length : Int) := by omega
          simp only [Nat.zero_mul, Nat.zero_add] at hc5
          have f5 := hgf 5
          simp only [Nat.zero_mul, Nat.zero_add] at f5
          have HROW := hid hrow
          have HEX := hid ex.symm
          have HNIL := hid (fun e => HROW.out.no e)
          clear hrow ex hc0 hc4 hgf
          go_upto_region 26 with fail
          refine wp_walks (zl := [12]) (S := fun Y => Y.cell? ⟨g, 5, none⟩ = some (.slice nxo nx.length nxc)) (by kernel_rfl) hc5 (fun hH => ?_)
          refine Walks.take (i := 0) (v := ?vz37) rfl (by kernel_rfl) (by kernel_rfl) (fun _ _ _ h => h) _ _ _ _ (by kernel_rfl) (by kernel_rfl) (Or.inl ⟨by rfl, ?hyz37⟩) hH ?restz37
          case hyz37 => (intro w' hSw; (try dsimp only at hSw); go_simp <;> with_reducible rfl)
          refine Walks.take (i := 1) (v := ?vz38) rfl (by kernel_rfl) (by kernel_rfl) (fun _ _ _ h => h) _ _ _ _ (by kernel_rfl) (by kernel_rfl) (Or.inl ⟨by rfl, ?hyz38⟩) hH ?restz38
          case hyz38 => (intro w' hSw; (try dsimp only at hSw); go_simp <;> with_reducible rfl)
          refine Walks.take (i := 2) (v := ?vz39) rfl (by kernel_rfl) (by kernel_rfl) (fun _ _ _ h => h) _ _ _ _ (by kernel_rfl) (by kernel_rfl) (Or.inl ⟨by rfl, ?hyz39⟩) hH ?restz39
          case hyz39 => (intro w' hSw; (try dsimp only at hSw); go_simp <;> with_reducible rfl)
          refine Walks.take (i := 3) (v := ?vz40) rfl (by kernel_rfl) (by kernel_rfl) (fun _ _ _ h => h) _ _ _ _ (by kernel_rfl) (by kernel_rfl) (Or.inl ⟨by rfl, ?hyz40⟩) hH ?restz40
          case hyz40 => (intro w' hSw; (try dsimp only at hSw); go_simp <;> with_reducible rfl)
          refine Walks.take (i := 4) (v := ?vz41) rfl (by kernel_rfl) (by kernel_rfl) (fun _ _ _ h => h) _ _ _ _ (by kernel_rfl) (by kernel_rfl) (Or.inl ⟨by rfl, ?hyz41⟩) hH ?restz41
          case hyz41 => (intro w' hSw; (try dsimp only at hSw); go_simp <;> with_reducible rfl)
          refine Walks.take (i := 5) (v := ?vz42) rfl (by kernel_rfl) (by kernel_rfl) (fun _ _ _ h => h) _ _ _ _ (by kernel_rfl) (by kernel_rfl) (Or.inl ⟨by rfl, ?hyz42⟩) hH ?restz42
          case hyz42 => (intro w' hSw; (try dsimp only at hSw); go_simp <;> with_reducible rfl)
          refine Walks.take (i := 6) (v := ?vz43) rfl (by kernel_rfl) (by kernel_rfl) (fun _ _ _ h => h) _ _ _ _ (by kernel_rfl) (by kernel_rfl) (Or.inl ⟨by rfl, ?hyz43⟩) hH ?restz43
          case hyz43 => (intro w' hSw; (try dsimp only at hSw); go_simp <;> with_reducible rfl)
          refine Walks.take (i := 7) (v := ?vz44) rfl (by kernel_rfl) (by kernel_rfl) (fun _ _ _ h => h) _ _ _ _ (by kernel_rfl) (by kernel_rfl) (Or.inl ⟨by rfl, ?hyz44⟩) hH ?restz44
          case hyz44 => (intro w' hSw; (try dsimp only at hSw); go_simp <;> with_reducible rfl)
          refine Walks.take (i := 8) (v := ?vz45) rfl (by kernel_rfl) (by kernel_rfl) (fun _ _ _ h => h) _ _ _ _ (by kernel_rfl) (by kernel_rfl) (Or.inl ⟨by rfl, ?hyz45⟩) hH ?restz45
          case hyz45 => (intro w' hSw; (try dsimp only at hSw); go_simp <;> with_reducible rfl)
          refine Walks.one (i := 9) (o := _) (by kernel_rfl) rfl (fun K hK => ?_)
          refine Kind.appZ kI_ok w4.drew (by rfl) (.tmp 119) (.tmp 123) (by rfl) w.heap.size (.slice nxo nx.length nxc) nx (by kernel_rfl) (by exact HROW.out.1) (by exact hR4.size) nxo nx nx.length nxc (by kernel_rfl) rfl HNIL.out w4.heap.size (by exact HROW.out.in) (by omega) ?_
          intro v5 w5 hO5 hB5 hG5 hN5
          obtain ⟨ta, tc, rfl, hO6⟩ := hO5.as
          obtain ⟨zs, hzs⟩ : ∃ zs, zs = nx ++ nx := ⟨_, rfl⟩
          have HZL : Hid (zs.length ≤ 22) := by rw [Hid, hzs]; simp; omega
          rw [← hzs] at hO6 hN5 ⊢
          clear hzs
          have hG6 : w4.grownBy w5 (Value.slice nxo nx.length nxc).ownBlock := ⟨hG5.os, hG5.tape, hG5.output, hG5.size, hG5.block⟩
          have hbl := D4.out.1.headKept (k := 0) (x := (nxo, nxc, nx)) (by omega) HROW.out hG6
          have c5 : w5.cell? ⟨g, 5, none⟩ = some (.slice nxo nx.length nxc) := (World.cell?_of_block (a := ⟨g, 5, none⟩) hbl).trans hc5
          have e5 : w5.frozen? ⟨g, 5, none⟩ = false := (World.frozen?_of_block (a := ⟨g, 5, none⟩) hbl).trans f5
          have hg5 : g < w5.heap.size := Nat.lt_of_lt_of_le hg3 hG6.size
          have HP := hid (D4.out.1.putRow (by omega) (k := 0) (by omega) (nm := nm) (kd := kd) (sa := sa) (sb := sb) (cp := cp) (x := (nxo, nxc, nx)) HEX.out hO6 hG6 hN5)
          rw [show (0 * 6 + 5 : Nat) = 5 from rfl] at HP
          have hB6 : Below w.heap.size w4 w5 := (Below.refl w.heap.size w4).drew.trans hB5
          have CF := hid ((C4.out.below hB6 hp).other (a := ⟨g, 5, none⟩) (by dsimp only; omega) (.slice ta zs.length tc))
          have RF := (hR4.of_below2 hB6 (Nat.le_refl _)).set (a := ⟨g, 5, none⟩) (by dsimp only; omega) (.slice ta zs.length tc)
          have hsz5 := hG6.size
          clear hO5 hO6 hB5 hG5 hN5 hG6 hbl hB6
          refine hK.out _ _ (fun _ => c5) (fun _ => ?_)
          clear hK K
          refine Walks.one (i := 10) (o := _) (by kernel_rfl) rfl (fun K hK => ?_)
          go_simp
          refine hK.out _ _ (fun _ => c5) (fun _ => ?_)
          clear hK K
          refine Walks.one (i := 11) (o := _) (by kernel_rfl) rfl (fun K hK => ?_)
          go_simp
          refine hK.out _ _ (fun _ => c5) (fun _ => ?_)
          clear hK K
          refine Walks.one (i := 12) (o := _) (by kernel_rfl) rfl (fun K hK => ?_)
          go_simp
          refine hK.out _ _ (fun h => absurd h (by decide)) (fun _ => ?_)
          clear hK K
          refine Walks.done (by kernel_rfl) ?_ _
          go_wp2
          go_ret
          exact ⟨⟨some ⟨g, 0, none⟩, _, us.set (0) (nm, kd, sa, sb, cp, (ta, tc, zs)), by rw [List.length_set]; rfl, HLG.out.set (by omega) (by dsimp only; omega) HZL.out, GD.wide HP.out (Nat.le_refl _) (by simp)⟩, k4, sd4, by omega, CF.out, RF⟩
        · go_wp2
          go_ret
          exact ⟨⟨none, _, [], rfl, ⟨by simp, fun a ha => by simp at ha⟩, gw_nil.gd.wide (Nat.le_refl _) (Nat.le_refl _)⟩, k4, sd4, by omega, C4.out, hR4⟩
        · have e0 : (y == 0) = false := by simpa using y0
          have f0 : decide (y = 0) = false := by simpa using y0
          have e1 : (y == 1) = false := by simpa using y1
          have f1 : decide (y = 1) = false := by simpa using y1
          have e2 : (y == 2) = false := by simpa using y2
          have f2 : decide (y = 2) = false := by simpa using y2
          have e3 : (y == 3) = false := by simpa using y3
          have f3 : decide (y = 3) = false := by simpa using y3
          have e4 : (y == 4) = false := by simpa using y4
          have f4 : decide (y = 4) = false := by simpa using y4
          go_wp2
          go_ret
          exact ⟨⟨o, _, us, rfl, HLG.out.fit (by omega), D4.out.1.gd.wide (Nat.le_refl _) (by omega)⟩, k4, sd4, by omega, C4.out, hR4⟩
end Go.Proofs.YtebnapgcobcilaaGreatDoor
