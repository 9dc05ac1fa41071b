/- The program's CheckGraph. A script begins: the program. A move of a script: the program. No conditions but those written. -/
import Derived.Test.YtdacedbfnlkghaaGreatDoorUZoIs
namespace Go.Proofs.YtdacedbfnlkghaaGreatDoor
set_option maxHeartbeats 8000000
set_option maxRecDepth 100000
open Go.RowKit Go.Proofs.Tryz
structure ErrB(W:World)(ea:Nat→Addr):Prop where
 blk:∀i,i<7→∃c t,W.heap[(ea i).block]? = some (.cells c t (0,0))
 ne:∀i j,i<7→j<7→i≠j→ea i≠ea j
theorem ErrB.later{W W':World}{ea:Nat→Addr}(h:ErrB W ea)(hb:Below W.1.size W W'):ErrB W' ea :=
 ⟨fun i hi=>by
  obtain⟨c,t,e⟩:=h.blk i hi;exact⟨c,t,(hb.block _ (Array.getElem?_eq_some_iff.1 e).1).trans e⟩,h.ne⟩
def Vf(ea:Nat→Addr)(c:Nat)(n:Int):Value:=if c=1 then errV (ea 0)else if c=7 then errV (ea 6)else .iface 241 (.agg #[.int .i64 n,errV (ea (c-1))])
theorem isF{W:World}{ea:Nat→Addr}(h:ErrB W ea){c k:Nat}{n:Int}(h1:1≤c)(h7:c≤7)(hk:k<6)(b:Bool)(hb:decide (c=k+1)=b) :
  Calls prog 203 #[Vf ea c n,errV (ea k)] W fun e w'=>e=.returned (.bool b)∧Below W.1.size W w':=by
 obtain⟨ck,tk,ek⟩:=h.blk k (by omega);subst hb
 unfold Vf
 by_cases c1:c=1
 ·rw[if_pos c1]
  by_cases k0:k=0
  ·subst k0;rw[decide_eq_true (by omega)];exact is_same _ _
  ·obtain⟨c0,t0,e0⟩:=h.blk 0 (by omega);rw[decide_eq_false (by omega)];exact is_other _ _ _ _ _ _ _ (h.ne 0 k (by omega) (by omega) (by omega)) e0 ek
 ·rw[if_neg c1]
  by_cases c7:c=7
  ·rw[if_pos c7,decide_eq_false (by omega)];obtain⟨c6,t6,e6⟩:=h.blk 6 (by omega);exact is_other _ _ _ _ _ _ _ (h.ne 6 k (by omega) (by omega) (by omega)) e6 ek
  ·rw[if_neg c7]
   by_cases ce:c=k+1
   ·rw[decide_eq_true ce,ce,Nat.add_sub_cancel];exact is_at_same n _ _
   ·rw[decide_eq_false ce];obtain⟨cc,tc,ec⟩:=h.blk (c-1) (by omega);exact is_at_other n _ _ _ _ _ _ _ (h.ne (c-1) k (by omega) (by omega) (by omega)) ec ek
theorem graphCode_nil(w:World):Calls prog 164 #[.nilIface] w fun e w'=>e=.returned (.int .i64 0)∧Below w.1.size w w':=by
 go_enter func164,ntmps164;go_wp2;go_ret;exact⟨rfl,Below.refl _ _⟩
theorem graphCode_1(ea:Nat→Addr)(n:Int)(w:World)(hE:Errs w ea)(hB:ErrB w ea):Calls prog 164 #[Vf ea 1 n] w fun e w'=>e=.returned (.int .i64 1)∧Below w.1.size w w':=by
 obtain⟨ty,v,hv⟩:∃ty v,Vf ea 1 n=.iface ty v:=⟨_,_,rfl⟩;have HB:=Zd hB;have HE:=Zd hE;have hB0:Below w.1.size w w:=Below.refl _ _;have i0:=fun W (hW:ErrB W ea)=>isF (n:=n) hW (show 1≤1 by decide) (show 1≤7 by decide) (show 0<6 by decide) true rfl
 rw[hv]at i0 ⊢;clear hv hE hB;have e0:=HE.o.c0;simp only[errV]at e0;go_enter func164,ntmps164;go_wp2_with fail;refine(i0 _ (HB.o.later hB0)).mono ?_;rintro e w1 ⟨rfl,hb1⟩;have hB1:Below w.1.size w w1:=hB0.trans (hb1.mono hB0.size);have e1:=(HE.o.later hB1).c1;simp only[errV]at e1;clear hb1 e0;go_wp2;go_ret;exact⟨rfl,hB1⟩
theorem graphCode_2(ea:Nat→Addr)(n:Int)(w:World)(hE:Errs w ea)(hB:ErrB w ea):Calls prog 164 #[Vf ea 2 n] w fun e w'=>e=.returned (.int .i64 2)∧Below w.1.size w w':=by
 obtain⟨ty,v,hv⟩:∃ty v,Vf ea 2 n=.iface ty v:=⟨_,_,rfl⟩;have HB:=Zd hB;have HE:=Zd hE;have hB0:Below w.1.size w w:=Below.refl _ _;have i0:=fun W (hW:ErrB W ea)=>isF (n:=n) hW (show 1≤2 by decide) (show 2≤7 by decide) (show 0<6 by decide) false rfl
 have i1:=fun W (hW:ErrB W ea)=>isF (n:=n) hW (show 1≤2 by decide) (show 2≤7 by decide) (show 1<6 by decide) true rfl
 rw[hv]at i0 i1 ⊢;clear hv hE hB;have e0:=HE.o.c0;simp only[errV]at e0;go_enter func164,ntmps164;go_wp2_with fail;refine(i0 _ (HB.o.later hB0)).mono ?_;rintro e w1 ⟨rfl,hb1⟩;have hB1:Below w.1.size w w1:=hB0.trans (hb1.mono hB0.size);have e1:=(HE.o.later hB1).c1;simp only[errV]at e1;clear hb1 e0;go_wp2_with fail;refine(i1 _ (HB.o.later hB1)).mono ?_;rintro e w2 ⟨rfl,hb2⟩;have hB2:Below w.1.size w w2:=hB1.trans (hb2.mono hB1.size);have e2:=(HE.o.later hB2).c2;simp only[errV]at e2;clear hb2 e1;go_wp2;go_ret;exact⟨rfl,hB2⟩
theorem graphCode_3(ea:Nat→Addr)(n:Int)(w:World)(hE:Errs w ea)(hB:ErrB w ea):Calls prog 164 #[Vf ea 3 n] w fun e w'=>e=.returned (.int .i64 3)∧Below w.1.size w w':=by
 obtain⟨ty,v,hv⟩:∃ty v,Vf ea 3 n=.iface ty v:=⟨_,_,rfl⟩;have HB:=Zd hB;have HE:=Zd hE;have hB0:Below w.1.size w w:=Below.refl _ _;have i0:=fun W (hW:ErrB W ea)=>isF (n:=n) hW (show 1≤3 by decide) (show 3≤7 by decide) (show 0<6 by decide) false rfl
 have i1:=fun W (hW:ErrB W ea)=>isF (n:=n) hW (show 1≤3 by decide) (show 3≤7 by decide) (show 1<6 by decide) false rfl
 have i2:=fun W (hW:ErrB W ea)=>isF (n:=n) hW (show 1≤3 by decide) (show 3≤7 by decide) (show 2<6 by decide) true rfl
 rw[hv]at i0 i1 i2 ⊢;clear hv hE hB;have e0:=HE.o.c0;simp only[errV]at e0;go_enter func164,ntmps164;go_wp2_with fail;refine(i0 _ (HB.o.later hB0)).mono ?_;rintro e w1 ⟨rfl,hb1⟩;have hB1:Below w.1.size w w1:=hB0.trans (hb1.mono hB0.size);have e1:=(HE.o.later hB1).c1;simp only[errV]at e1;clear hb1 e0;go_wp2_with fail;refine(i1 _ (HB.o.later hB1)).mono ?_;rintro e w2 ⟨rfl,hb2⟩;have hB2:Below w.1.size w w2:=hB1.trans (hb2.mono hB1.size);have e2:=(HE.o.later hB2).c2;simp only[errV]at e2;clear hb2 e1;go_wp2_with fail;refine(i2 _ (HB.o.later hB2)).mono ?_;rintro e w3 ⟨rfl,hb3⟩;have hB3:Below w.1.size w w3:=hB2.trans (hb3.mono hB2.size);have e3:=(HE.o.later hB3).c3;simp only[errV]at e3;clear hb3 e2;go_wp2;go_ret;exact⟨rfl,hB3⟩
theorem graphCode_4(ea:Nat→Addr)(n:Int)(w:World)(hE:Errs w ea)(hB:ErrB w ea):Calls prog 164 #[Vf ea 4 n] w fun e w'=>e=.returned (.int .i64 4)∧Below w.1.size w w':=by
 obtain⟨ty,v,hv⟩:∃ty v,Vf ea 4 n=.iface ty v:=⟨_,_,rfl⟩;have HB:=Zd hB;have HE:=Zd hE;have hB0:Below w.1.size w w:=Below.refl _ _;have i0:=fun W (hW:ErrB W ea)=>isF (n:=n) hW (show 1≤4 by decide) (show 4≤7 by decide) (show 0<6 by decide) false rfl
 have i1:=fun W (hW:ErrB W ea)=>isF (n:=n) hW (show 1≤4 by decide) (show 4≤7 by decide) (show 1<6 by decide) false rfl
 have i2:=fun W (hW:ErrB W ea)=>isF (n:=n) hW (show 1≤4 by decide) (show 4≤7 by decide) (show 2<6 by decide) false rfl
 have i3:=fun W (hW:ErrB W ea)=>isF (n:=n) hW (show 1≤4 by decide) (show 4≤7 by decide) (show 3<6 by decide) true rfl
 rw[hv]at i0 i1 i2 i3 ⊢;clear hv hE hB;have e0:=HE.o.c0;simp only[errV]at e0;go_enter func164,ntmps164;go_wp2_with fail;refine(i0 _ (HB.o.later hB0)).mono ?_;rintro e w1 ⟨rfl,hb1⟩;have hB1:Below w.1.size w w1:=hB0.trans (hb1.mono hB0.size);have e1:=(HE.o.later hB1).c1;simp only[errV]at e1;clear hb1 e0;go_wp2_with fail;refine(i1 _ (HB.o.later hB1)).mono ?_;rintro e w2 ⟨rfl,hb2⟩;have hB2:Below w.1.size w w2:=hB1.trans (hb2.mono hB1.size);have e2:=(HE.o.later hB2).c2;simp only[errV]at e2;clear hb2 e1;go_wp2_with fail;refine(i2 _ (HB.o.later hB2)).mono ?_;rintro e w3 ⟨rfl,hb3⟩;have hB3:Below w.1.size w w3:=hB2.trans (hb3.mono hB2.size);have e3:=(HE.o.later hB3).c3;simp only[errV]at e3;clear hb3 e2;go_wp2_with fail;refine(i3 _ (HB.o.later hB3)).mono ?_;rintro e w4 ⟨rfl,hb4⟩;have hB4:Below w.1.size w w4:=hB3.trans (hb4.mono hB3.size);have e4:=(HE.o.later hB4).c4;simp only[errV]at e4;clear hb4 e3;go_wp2;go_ret;exact⟨rfl,hB4⟩
theorem graphCode_5(ea:Nat→Addr)(n:Int)(w:World)(hE:Errs w ea)(hB:ErrB w ea):Calls prog 164 #[Vf ea 5 n] w fun e w'=>e=.returned (.int .i64 5)∧Below w.1.size w w':=by
 obtain⟨ty,v,hv⟩:∃ty v,Vf ea 5 n=.iface ty v:=⟨_,_,rfl⟩;have HB:=Zd hB;have HE:=Zd hE;have hB0:Below w.1.size w w:=Below.refl _ _;have i0:=fun W (hW:ErrB W ea)=>isF (n:=n) hW (show 1≤5 by decide) (show 5≤7 by decide) (show 0<6 by decide) false rfl
 have i1:=fun W (hW:ErrB W ea)=>isF (n:=n) hW (show 1≤5 by decide) (show 5≤7 by decide) (show 1<6 by decide) false rfl
 have i2:=fun W (hW:ErrB W ea)=>isF (n:=n) hW (show 1≤5 by decide) (show 5≤7 by decide) (show 2<6 by decide) false rfl
 have i3:=fun W (hW:ErrB W ea)=>isF (n:=n) hW (show 1≤5 by decide) (show 5≤7 by decide) (show 3<6 by decide) false rfl
 have i4:=fun W (hW:ErrB W ea)=>isF (n:=n) hW (show 1≤5 by decide) (show 5≤7 by decide) (show 4<6 by decide) true rfl
 rw[hv]at i0 i1 i2 i3 i4 ⊢;clear hv hE hB;have e0:=HE.o.c0;simp only[errV]at e0;go_enter func164,ntmps164;go_wp2_with fail;refine(i0 _ (HB.o.later hB0)).mono ?_;rintro e w1 ⟨rfl,hb1⟩;have hB1:Below w.1.size w w1:=hB0.trans (hb1.mono hB0.size);have e1:=(HE.o.later hB1).c1;simp only[errV]at e1;clear hb1 e0;go_wp2_with fail;refine(i1 _ (HB.o.later hB1)).mono ?_;rintro e w2 ⟨rfl,hb2⟩;have hB2:Below w.1.size w w2:=hB1.trans (hb2.mono hB1.size);have e2:=(HE.o.later hB2).c2;simp only[errV]at e2;clear hb2 e1;go_wp2_with fail;refine(i2 _ (HB.o.later hB2)).mono ?_;rintro e w3 ⟨rfl,hb3⟩;have hB3:Below w.1.size w w3:=hB2.trans (hb3.mono hB2.size);have e3:=(HE.o.later hB3).c3;simp only[errV]at e3;clear hb3 e2;go_wp2_with fail;refine(i3 _ (HB.o.later hB3)).mono ?_;rintro e w4 ⟨rfl,hb4⟩;have hB4:Below w.1.size w w4:=hB3.trans (hb4.mono hB3.size);have e4:=(HE.o.later hB4).c4;simp only[errV]at e4;clear hb4 e3;go_wp2_with fail;refine(i4 _ (HB.o.later hB4)).mono ?_;rintro e w5 ⟨rfl,hb5⟩;have hB5:Below w.1.size w w5:=hB4.trans (hb5.mono hB4.size);have e5:=(HE.o.later hB5).c5;simp only[errV]at e5;clear hb5 e4;go_wp2;go_ret;exact⟨rfl,hB5⟩
theorem graphCode_6(ea:Nat→Addr)(n:Int)(w:World)(hE:Errs w ea)(hB:ErrB w ea):Calls prog 164 #[Vf ea 6 n] w fun e w'=>e=.returned (.int .i64 6)∧Below w.1.size w w':=by
 obtain⟨ty,v,hv⟩:∃ty v,Vf ea 6 n=.iface ty v:=⟨_,_,rfl⟩;have HB:=Zd hB;have HE:=Zd hE;have hB0:Below w.1.size w w:=Below.refl _ _;have i0:=fun W (hW:ErrB W ea)=>isF (n:=n) hW (show 1≤6 by decide) (show 6≤7 by decide) (show 0<6 by decide) false rfl
 have i1:=fun W (hW:ErrB W ea)=>isF (n:=n) hW (show 1≤6 by decide) (show 6≤7 by decide) (show 1<6 by decide) false rfl
 have i2:=fun W (hW:ErrB W ea)=>isF (n:=n) hW (show 1≤6 by decide) (show 6≤7 by decide) (show 2<6 by decide) false rfl
 have i3:=fun W (hW:ErrB W ea)=>isF (n:=n) hW (show 1≤6 by decide) (show 6≤7 by decide) (show 3<6 by decide) false rfl
 have i4:=fun W (hW:ErrB W ea)=>isF (n:=n) hW (show 1≤6 by decide) (show 6≤7 by decide) (show 4<6 by decide) false rfl
 have i5:=fun W (hW:ErrB W ea)=>isF (n:=n) hW (show 1≤6 by decide) (show 6≤7 by decide) (show 5<6 by decide) true rfl
 rw[hv]at i0 i1 i2 i3 i4 i5 ⊢;clear hv hE hB;have e0:=HE.o.c0;simp only[errV]at e0;go_enter func164,ntmps164;go_wp2_with fail;refine(i0 _ (HB.o.later hB0)).mono ?_;rintro e w1 ⟨rfl,hb1⟩;have hB1:Below w.1.size w w1:=hB0.trans (hb1.mono hB0.size);have e1:=(HE.o.later hB1).c1;simp only[errV]at e1;clear hb1 e0;go_wp2_with fail;refine(i1 _ (HB.o.later hB1)).mono ?_;rintro e w2 ⟨rfl,hb2⟩;have hB2:Below w.1.size w w2:=hB1.trans (hb2.mono hB1.size);have e2:=(HE.o.later hB2).c2;simp only[errV]at e2;clear hb2 e1;go_wp2_with fail;refine(i2 _ (HB.o.later hB2)).mono ?_;rintro e w3 ⟨rfl,hb3⟩;have hB3:Below w.1.size w w3:=hB2.trans (hb3.mono hB2.size);have e3:=(HE.o.later hB3).c3;simp only[errV]at e3;clear hb3 e2;go_wp2_with fail;refine(i3 _ (HB.o.later hB3)).mono ?_;rintro e w4 ⟨rfl,hb4⟩;have hB4:Below w.1.size w w4:=hB3.trans (hb4.mono hB3.size);have e4:=(HE.o.later hB4).c4;simp only[errV]at e4;clear hb4 e3;go_wp2_with fail;refine(i4 _ (HB.o.later hB4)).mono ?_;rintro e w5 ⟨rfl,hb5⟩;have hB5:Below w.1.size w w5:=hB4.trans (hb5.mono hB4.size);have e5:=(HE.o.later hB5).c5;simp only[errV]at e5;clear hb5 e4;go_wp2_with fail;refine(i5 _ (HB.o.later hB5)).mono ?_;rintro e w6 ⟨rfl,hb6⟩;have hB6:Below w.1.size w w6:=hB5.trans (hb6.mono hB5.size);have e6:=(HE.o.later hB6).c6;simp only[errV]at e6;clear hb6 e5;go_wp2;go_ret;exact⟨rfl,hB6⟩
theorem graphCode_7(ea:Nat→Addr)(n:Int)(w:World)(hE:Errs w ea)(hB:ErrB w ea):Calls prog 164 #[Vf ea 7 n] w fun e w'=>e=.returned (.int .i64 7)∧Below w.1.size w w':=by
 obtain⟨ty,v,hv⟩:∃ty v,Vf ea 7 n=.iface ty v:=⟨_,_,rfl⟩;have HB:=Zd hB;have HE:=Zd hE;have hB0:Below w.1.size w w:=Below.refl _ _;have i0:=fun W (hW:ErrB W ea)=>isF (n:=n) hW (show 1≤7 by decide) (show 7≤7 by decide) (show 0<6 by decide) false rfl
 have i1:=fun W (hW:ErrB W ea)=>isF (n:=n) hW (show 1≤7 by decide) (show 7≤7 by decide) (show 1<6 by decide) false rfl
 have i2:=fun W (hW:ErrB W ea)=>isF (n:=n) hW (show 1≤7 by decide) (show 7≤7 by decide) (show 2<6 by decide) false rfl
 have i3:=fun W (hW:ErrB W ea)=>isF (n:=n) hW (show 1≤7 by decide) (show 7≤7 by decide) (show 3<6 by decide) false rfl
 have i4:=fun W (hW:ErrB W ea)=>isF (n:=n) hW (show 1≤7 by decide) (show 7≤7 by decide) (show 4<6 by decide) false rfl
 have i5:=fun W (hW:ErrB W ea)=>isF (n:=n) hW (show 1≤7 by decide) (show 7≤7 by decide) (show 5<6 by decide) false rfl
 rw[hv]at i0 i1 i2 i3 i4 i5 ⊢;clear hv hE hB;have e0:=HE.o.c0;simp only[errV]at e0;go_enter func164,ntmps164;go_wp2_with fail;refine(i0 _ (HB.o.later hB0)).mono ?_;rintro e w1 ⟨rfl,hb1⟩;have hB1:Below w.1.size w w1:=hB0.trans (hb1.mono hB0.size);have e1:=(HE.o.later hB1).c1;simp only[errV]at e1;clear hb1 e0;go_wp2_with fail;refine(i1 _ (HB.o.later hB1)).mono ?_;rintro e w2 ⟨rfl,hb2⟩;have hB2:Below w.1.size w w2:=hB1.trans (hb2.mono hB1.size);have e2:=(HE.o.later hB2).c2;simp only[errV]at e2;clear hb2 e1;go_wp2_with fail;refine(i2 _ (HB.o.later hB2)).mono ?_;rintro e w3 ⟨rfl,hb3⟩;have hB3:Below w.1.size w w3:=hB2.trans (hb3.mono hB2.size);have e3:=(HE.o.later hB3).c3;simp only[errV]at e3;clear hb3 e2;go_wp2_with fail;refine(i3 _ (HB.o.later hB3)).mono ?_;rintro e w4 ⟨rfl,hb4⟩;have hB4:Below w.1.size w w4:=hB3.trans (hb4.mono hB3.size);have e4:=(HE.o.later hB4).c4;simp only[errV]at e4;clear hb4 e3;go_wp2_with fail;refine(i4 _ (HB.o.later hB4)).mono ?_;rintro e w5 ⟨rfl,hb5⟩;have hB5:Below w.1.size w w5:=hB4.trans (hb5.mono hB4.size);have e5:=(HE.o.later hB5).c5;simp only[errV]at e5;clear hb5 e4;go_wp2_with fail;refine(i5 _ (HB.o.later hB5)).mono ?_;rintro e w6 ⟨rfl,hb6⟩;have hB6:Below w.1.size w w6:=hB5.trans (hb6.mono hB5.size);have e6:=(HE.o.later hB6).c6;simp only[errV]at e6;clear hb6 e5;go_wp2;go_ret;exact⟨rfl,hB6⟩
theorem faultV_C{ea:Nat→Addr}{gs:List PNode}(h:Qa gs≠0):∃n,Xg ea gs=Vf ea (Qa gs) n:=by
 refine⟨fidx (Kn gs (Qa gs-2)) (Qh gs.length),?_⟩;rw[Xg,if_neg h];rfl
theorem Ly(gs:List PNode):Qa gs≤7:=by
 unfold Qa
 repeat' split
 all_goals omega
theorem implCheck_is(ao:Option Addr)(cap:Nat)(ts:List LNode)(ea:Nat→Addr)(w:World)(hC:Roomy ts cap)(hE:Errs w ea)(hB:ErrB w ea)(hz:DIn Ja w.1.size w ao ts) :
  Calls prog 127 #[.slice ao ts.length cap] w fun e w'=>e=.returned (.int .i64 (Qa (ts.map Zz):Nat))∧Below w.1.size w w':=by
 have hcon:=Bh ao cap ts ea w hC hE hz;have hle:=Ly (ts.map Zz);have hgc:∀W,Below w.1.size w W→Calls prog 164 #[Xg ea (ts.map Zz)] W fun e w'=>e=.returned (.int .i64 (Qa (ts.map Zz):Nat))∧Below W.1.size W w':=fun W hW=>by
  by_cases h0:Qa (ts.map Zz)=0
  ·rw[Ch.2 h0,h0];exact graphCode_nil W
  ·obtain⟨n,e⟩:=faultV_C (ea:=ea) h0;rw[e]
   rcases(show Qa (ts.map Zz)=1∨Qa (ts.map Zz)=2∨Qa (ts.map Zz)=3∨Qa (ts.map Zz)=4∨Qa (ts.map Zz)=5∨Qa (ts.map Zz)=6∨Qa (ts.map Zz)=7 from by omega)with h|h|h|h|h|h|h <;> rw[h]
   ·exact graphCode_1 ea n W (hE.later hW) (hB.later hW)
   ·exact graphCode_2 ea n W (hE.later hW) (hB.later hW)
   ·exact graphCode_3 ea n W (hE.later hW) (hB.later hW)
   ·exact graphCode_4 ea n W (hE.later hW) (hB.later hW)
   ·exact graphCode_5 ea n W (hE.later hW) (hB.later hW)
   ·exact graphCode_6 ea n W (hE.later hW) (hB.later hW)
   ·exact graphCode_7 ea n W (hE.later hW) (hB.later hW)
 have HG:=Zd hgc;obtain⟨fv,hfv⟩:=nmd (Xg ea (ts.map Zz));obtain⟨cg,hcg⟩:=nmd (Qa (ts.map Zz));rw[←hfv,←hcg]at HG;rw[←hfv]at hcon;rw[←hcg];clear hfv hcg hgc hE hB hz hC hle;go_enter func127,ntmps127;go_wp2_with (first
  |(go_at_call 165;refine hcon.mono ?_;rintro e w1 ⟨rfl,hb1⟩)
  |(go_at_call 164;refine(HG.o w1 hb1).mono ?_;rintro e w2 ⟨rfl,hb2⟩;have hB2:Below w.1.size w w2:=hb1.trans (hb2.mono hb1.size)))
 go_ret;exact⟨rfl,hB2⟩
structure PB(q:Nat)(W:World)(o:Option Addr)(c:Nat)(us:List LNode)(hi:Nat)(bad:Int):Prop where
 box:Bx W q [.slice o us.length c,.bool true,.string (refT bad),.pointer none,.int .i64 0]
 gr:GR (q+1) hi W o c us
 fit:FitR us
 hi1:hi≤W.1.size
 hi0:q+1≤hi
structure PR(q:Nat)(W:World)(o:Option Addr)(c:Nat)(us:List LNode)(hi lo p bb:Nat)(so:Option Addr)(sc:Nat)(xs:List Value)(ev fv uv:Value)(s:PP)(n:Nat):Prop where
 box:Bx W q [.slice o us.length c,.bool true,.string ⟨#[]⟩,.pointer (some ⟨p,0,none⟩),.int .i64 (n:Int)]
 gr:GR (q+1) hi W o c us
 fit:FitR us
 hi1:hi≤lo
 hi0:q+1≤hi
 flow:Flow lo W p bb (.slice o us.length c) (.slice so (Ke (us.map Zz) us.length).length sc) xs ev fv uv s
 src:kI.Fresh (q+1) lo W so sc (Ke (us.map Zz) us.length)
 pipe:Kv (us.map Zz)=true
 sci:ScI (us.map Zz) n s
 few:n≤300
def OR(q p bb:Nat)(xs:List Value)(ev fv uv:Value)(b:Nat):Prop:=b=q∨FO p bb xs ev fv uv b
def AnsBeg(q:Nat)(W:World)(o:Option Addr)(c:Nat)(us:List LNode)(hi:Nat)(e:Ending)(W':World):Prop :=
 (∃v,e=.returned v)∧if Hz (us.map Zz)=0 then∃lo p bb so sc xs,PR q W' o c us hi lo p bb so sc xs (.slice none 0 0) (.slice none 0 0) (.slice none 0 0) (pp0 us.length) 0∧SStep q (OA q o) (OR q p bb xs (.slice none 0 0) (.slice none 0 0) (.slice none 0 0)) W W'
  else PB q W' o c us hi (Hz (us.map Zz))∧SStep q (OA q o) (fun b=>b=q) W W'
theorem Gm(gs:List PNode):Hz gs=0↔Kv gs=true:=by
 unfold Hz Kv
 by_cases h:Qa gs=0
 ·rw[if_pos h]
  by_cases h2:Ue gs≤400
  ·rw[if_pos h2];simp[h,h2]
  ·rw[if_neg h2];simp[h,h2]
 ·rw[if_neg h];simp[h]
theorem Flow.ge{lo:Nat}{W:World}{p bb:Nat}{gv sv:Value}{xs:List Value}{ev fv uv:Value}{s:PP}(h:Flow lo W p bb gv sv xs ev fv uv s){b:Nat}(hb:FO p bb xs ev fv uv b):lo≤b:=by
 rcases hb with rfl|rfl|⟨j,hj,hb⟩|hb|hb|hb
 ·exact h.lop
 ·exact h.lob
 ·have:=(Zj (h.hnd.row j (by rw[←h.hnd.len];exact hj)) hb).1;have:=h.lob
  omega
 ·exact(Zj h.emo hb).1
 ·exact(Zj h.fao hb).1
 ·exact(Zj h.fuo hb).1
def Env(n:Nat)(W:World)(ea:Nat→Addr):Prop:=∀W',Below n W W'→PowTab W'∧NErr W'∧Wds W'∧Cmds W'∧Errs W' ea∧ErrB W' ea
theorem Env.step{n:Nat}{W W':World}{ea:Nat→Addr}(h:Env n W ea)(hb:Below n W W'):Env n W' ea:=fun V hV=>h V (hb.trans hV)
theorem Env.now{n:Nat}{W:World}{ea:Nat→Addr}(h:Env n W ea):PowTab W∧NErr W∧Wds W∧Cmds W∧Errs W ea∧ErrB W ea:=h W (Below.refl n W)
theorem begin_any(n:Nat)(q:Nat)(W:World)(o:Option Addr)(c:Nat)(us:List LNode)(hi:Nat)(ea:Nat→Addr)(h:PA q W o c us hi)(hV:Env n W ea)(hn:n≤q) :
  Calls prog 103 #[.pointer (some ⟨q,0,none⟩)] W (AnsBeg q W o c us hi):=by
 have HH:=Zd h;obtain⟨W1,h1⟩:=nmd (W.setCell ⟨q,1,none⟩ (.bool true));have X1:Bx W1 q [.slice o us.length c,.bool true,.string ⟨#[]⟩,.pointer none,.int .i64 0]:=by rw[h1];exact h.box.set 1 _
 have G1:GR (q+1) hi W1 o c us:=by rw[h1];exact h.gr.setOff (.inl (by dsimp only;omega)) _
 have hs1:W1.1.size=W.1.size:=by rw[h1];simp[World.setCell]
 have hb1:Below q W W1:=by rw[h1];exact(Below.refl q W).setCell (p:=⟨q,1,none⟩) (Nat.le_refl _) _
 have S1:SStep q (OA q o) (OA q o) W W1:=by rw[h1];exact SStep.set (a:=⟨q,1,none⟩) (.inl rfl) (Nat.le_refl _) _
 have V1:=hV.step (hb1.mono hn);have RM:=h.fit.roomy G1;have HFL:=Zd (flowIn_any o c us ea W1 RM V1.now.2.2.2.2.1 G1.in);have H1:=Zd h1;have HX1:=Zd X1;have HG1:=Zd G1;have HS1:=Zd S1;have HV1:=Zd V1;have HRM:=Zd RM;have c1:=h.box.c 1 rfl;have f1:=h.box.f 1 rfl;have cz:=h.box.size;have hhi:=h.hi1;have hhi0:=h.hi0;clear h hV X1 G1 S1 V1 RM h1 hb1;go_enter func103,ntmps103
 go_upto_region 1 with fail
 rw[←H1.o];clear H1 c1 f1 cz;have c0:=HX1.o.c 0 rfl;have cz:=HX1.o.size;go_wp2_with fail;refine HFL.o.mono ?_;rintro e w2 ⟨hq,hb2⟩;have X2:=Zd (HX1.o.later hb2);have G2:=Zd (HG1.o.later hb2);have hb2q:=hb2.mono (Nat.le_of_lt cz);have S2:=Zd (HS1.o.trans (SStep.of_below hb2 (Nat.le_of_lt cz)));have V2:=Zd (HV1.o.step (hb2q.mono hn));have hsz:=hb2.size
 by_cases hp:Kv (us.map Zz)=true
 ·rw[if_pos hp]at hq;obtain⟨lo,p,bb,so,sc,xs,rfl,hlo,hI,F⟩:=hq;have HP:=Zd hp;have HF:=Zd F;have HI:=Zd hI;have c3:=X2.o.c 3 rfl;have f3:=X2.o.f 3 rfl;have cz2:=X2.o.size;clear hp F hI hb2 hb2q HFL c0;go_wp2
  first|refine bodyPost_ret (results_none rfl _ _ _) rfl ?_|refine bodyPost_end (results_none rfl _ _ _) rfl ?_
  have hnF:¬FO p bb xs (.slice none 0 0) (.slice none 0 0) (.slice none 0 0) q:=fun hF=>by have:=HF.o.ge hF;omega
  have S3:=S2.o.trans (SStep.set (O:=OA q o) (a:=⟨q,3,none⟩) (.inl rfl) (Nat.le_refl _) (.pointer (some ⟨p,0,none⟩)));refine⟨⟨_,rfl⟩,?_⟩;rw[if_pos ((Gm _).2 HP.o)];refine⟨lo,p,bb,so,sc,xs,⟨X2.o.set 3 _,G2.o.setOff (.inl (by dsimp only;omega)) _,HH.o.fit,by omega,hhi0,HF.o.setFar hnF _,(HI.o.setOff (.inl (by dsimp only;omega)) _).wide (by omega) (Nat.le_refl _),HP.o,?_,by omega⟩,?_⟩
  ·have hg:=Nk (gs:=us.map Zz) (by have:=HP.o;simp[Kv]at this;exact this.1);have:=ScI.zero hg;rw[Zb]at this;exact this
  ·exact⟨S3.low,S3.block,fun b hb=>hb.elim (fun e=>.inl (.inl e)) fun hF=>.inr (by have:=HF.o.ge hF;omega)⟩
 ·rw[if_neg hp]at hq;subst hq;have HP:=Zd hp;have HCK:=Zd (implCheck_is o c us ea w2 HRM.o V2.o.now.2.2.2.2.1 V2.o.now.2.2.2.2.2 G2.o.in);obtain⟨cg,hcg⟩:=nmd (Qa (us.map Zz));have hcl:=Ly (us.map Zz);have hbad:Zi (Hz (us.map Zz)=if cg=0 then 8 else(cg:Int)):=by
   rw[Zi,Hz,←hcg]
   by_cases h0:cg=0
   ·rw[if_pos h0,if_pos h0,if_neg];intro hw;exact hp (by simp[Kv,←hcg,h0,hw])
   ·rw[if_neg h0,if_neg h0]
  rw[←hcg]at HCK hcl;clear hcg hp hb2 hb2q HFL c0 cz;have c0:=X2.o.c 0 rfl;have cz:=X2.o.size;have hfin:Zi (∀(V:World)(bad:Int)(v:Value),Hz (us.map Zz)=bad→Below w2.1.size w2 V→AnsBeg q W o c us hi (.returned v) (V.setCell ⟨q,2,none⟩ (.string (refT bad)))):=fun V bad v hbd hbV=>by
   have S3:=(S2.o.trans (SStep.of_below hbV (Nat.le_of_lt X2.o.size))).trans (SStep.set (O:=OA q o) (a:=⟨q,2,none⟩) (.inl rfl) (Nat.le_refl _) (.string (refT bad)));have hvs:=hbV.size;refine⟨⟨_,rfl⟩,?_⟩;rw[if_neg (fun h=>HP.o ((Gm _).1 h)),hbd];exact⟨⟨(X2.o.later hbV).set 2 _,(G2.o.later hbV).setOff (.inl (by dsimp only;omega)) _,HH.o.fit,by simp[World.setCell];omega,hhi0⟩,S3.low,S3.block,fun b hb=>.inl (.inl hb)⟩
  have hnq:n≤w2.1.size:=by have:=X2.o.size;omega
  by_cases h0:cg=0
  ·subst h0;have HBD:Zi (Hz (us.map Zz)=8):=hbad;go_wp2_with fail;refine HCK.o.mono ?_;rintro e w3 ⟨rfl,hb3⟩;have hb23:=hb3;go_wp2_with fail;refine(Vv 8 (by omega) (by omega) w3 (V2.o.step (hb3.mono hnq)).now.1).mono ?_;rintro e w4 ⟨rfl,hb4⟩;have hb24:=hb3.trans (hb4.mono hb3.size);have X4:=X2.o.later hb24;have c2:=X4.c 2 rfl;have f2:=X4.f 2 rfl;have cz4:=X4.size;have HB24:=Zd hb24;clear hb3 hb4 hb24 hb23 HCK X4;obtain⟨y,hy⟩:=nmd (tx (Lib.itoa 8));have HY:=Zd hy;have hys:y.size≤100:=by rw[hy];have:=Qx 8 (by omega) (by omega);show(tx _).size≤100;simp only[tx,ByteArray.size,List.size_toArray];omega
   have hy6:¬9223372036854775807<6+y.size:=by omega
   rw[←hy];clear hy;go_wp2
   first|refine bodyPost_ret (results_none rfl _ _ _) rfl ?_|refine bodyPost_end (results_none rfl _ _ _) rfl ?_
   have h9:∀v,AnsBeg q W o c us hi (.returned v) (w4.setCell ⟨q,2,none⟩ (.string (tx [103,114,97,112,104,32]++y))):=fun v=>by
    have h8:=hfin.o w4 8 v HBD.o HB24.o;rw[refT,←HY.o]at h8;exact h8
   exact h9 _
  ·have hd:(((cg:Nat):Int)==0)=false:=by simpa using h0
   have HBD:Zi (Hz (us.map Zz)=(cg:Int)):=by have:=hbad.o;rw[if_neg h0]at this;exact this
   clear h0;go_wp2_with fail;refine HCK.o.mono ?_;rintro e w3 ⟨rfl,hb3⟩;have hb23:=hb3;go_wp2_with fail;refine(Vv (cg:Int) (by omega) (by omega) w3 (V2.o.step (hb3.mono hnq)).now.1).mono ?_;rintro e w4 ⟨rfl,hb4⟩;have hb24:=hb3.trans (hb4.mono hb3.size);have X4:=X2.o.later hb24;have c2:=X4.c 2 rfl;have f2:=X4.f 2 rfl;have cz4:=X4.size;have HB24:=Zd hb24;clear hb3 hb4 hb24 hb23 HCK X4;obtain⟨y,hy⟩:=nmd (tx (Lib.itoa (cg:Int)));have HY:=Zd hy;have hys:y.size≤100:=by rw[hy];have:=Qx (cg:Int) (by omega) (by omega);show(tx _).size≤100;simp only[tx,ByteArray.size,List.size_toArray];omega
   have hy6:¬9223372036854775807<6+y.size:=by omega
   rw[←hy];clear hy;go_wp2
   first|refine bodyPost_ret (results_none rfl _ _ _) rfl ?_|refine bodyPost_end (results_none rfl _ _ _) rfl ?_
   have h9:∀v,AnsBeg q W o c us hi (.returned v) (w4.setCell ⟨q,2,none⟩ (.string (tx [103,114,97,112,104,32]++y))):=fun v=>by
    have h8:=hfin.o w4 (cg:Int) v HBD.o HB24.o;rw[refT,←HY.o]at h8;exact h8
   exact h9 _
section
open Go.RowKit
theorem ScI.more{gs:List PNode}{n:Nat}{s:PP}(h:ScI gs n s):ScI gs (n+1) s:=⟨h.inv,h.bnd.imp (fun h=>h.more (Nat.le_succ n)) id⟩
theorem fresh_in{α:Type}{K:Kind α} [Inhabited α] {lo hi:Nat} {W:World} {ao:Option Addr} {c:Nat} {xs:List α} (h:K.Fresh lo hi W ao c xs):K.In hi W ao xs:=by
 by_cases h0:0<xs.length
 ·obtain⟨g,e,h1,h2,_,_⟩:=h.at h0
  rcases h.in with h3|⟨b,off,e2,_,hc⟩
  ·exact .inl h3
  ·refine .inr ⟨b,off,e2,?_,hc⟩;rw[e]at e2;simp at e2;omega
 ·exact .inl (List.length_eq_zero_iff.1 (by omega))
theorem GR.inHi{lo hi:Nat}{W:World}{o:Option Addr}{c:Nat}{us:List LNode}(h:GR lo hi W o c us):DIn Ja hi W o us:=⟨fresh_in h.1.1,fun j hj=>fresh_in (K:=kI) (h.1.2.1 j hj)⟩
section
variable {q:Nat} {W W':World} {o:Option Addr} {c:Nat} {us:List LNode} {hi lo p bb:Nat} {so:Option Addr} {sc:Nat} {xs:List Value} {ev fv uv:Value} {s s':PP} {n:Nat}
theorem PR.later(h:PR q W o c us hi lo p bb so sc xs ev fv uv s n)(hb:Below W.1.size W W'):PR q W' o c us hi lo p bb so sc xs ev fv uv s n :=
 ⟨h.box.later hb,h.gr.later hb,h.fit,h.hi1,h.hi0,h.flow.later hb,h.src.later hb,h.pipe,h.sci,h.few⟩
theorem PR.good(h:PR q W o c us hi lo p bb so sc xs ev fv uv s n):GoodE (us.map Zz)∧Ordd (us.map Zz) (Zv (us.map Zz))∧Ue (us.map Zz)≤400:=by
 have h00:Qa (us.map Zz)=0∧Ue (us.map Zz)≤400:=by have:=h.pipe;simpa[Kv]using this
 exact⟨Nk h00.1,Ka (Jw h00.1).2.2,h00.2⟩
theorem PR.qlo(h:PR q W o c us hi lo p bb so sc xs ev fv uv s n):q<lo:=by have:=h.hi1;have:=h.hi0;omega
theorem PR.step(h:PR q W o c us hi lo p bb so sc xs ev fv uv s n)(hs:FStep lo p (.slice o us.length c) (.slice so (Ke (us.map Zz) us.length).length sc) (FO p bb xs ev fv uv) W W' s')(hI:ScI (us.map Zz) n s') :
  ∃bb' xs' ev' fv' uv',PR q W' o c us hi lo p bb' so sc xs' ev' fv' uv' s' n∧SStep q (OR q p bb xs ev fv uv) (OR q p bb' xs' ev' fv' uv') W W':=by
 obtain⟨O',⟨bb',xs',ev',fv',uv',F',hO'⟩,hsub,hlow,hkeep⟩:=hs;have hq:=h.qlo;refine⟨bb',xs',ev',fv',uv',⟨h.box.below hlow hq,h.gr.below hlow h.hi1,h.fit,h.hi1,h.hi0,F',h.src.keep fun k _ h2 _=>hlow.block k h2,h.pipe,hI,h.few⟩,hlow.mono (Nat.le_of_lt hq),fun b hb hn=>hkeep b hb fun hF=>hn (.inr hF),fun b hb=>?_⟩
 rcases hb with rfl|hb
 ·exact .inl (.inl rfl)
 ·exact(hsub b (hO' b hb)).imp .inr id
theorem PR.count(h:PR q W o c us hi lo p bb so sc xs ev fv uv s n)(hn:n+1≤300):PR q (W.setCell ⟨q,4,none⟩ (.int .i64 ((n:Int)+1))) o c us hi lo p bb so sc xs ev fv uv s (n+1):=by
 have hq:=h.qlo;have hnF:¬FO p bb xs ev fv uv q:=fun hF=>by have:=h.flow.ge hF;omega
 exact⟨h.box.set 4 _,h.gr.setOff (.inl (by dsimp only;omega)) _,h.fit,h.hi1,h.hi0,h.flow.setFar hnF _,h.src.setOff (.inl (by dsimp only;omega)) _,h.pipe,h.sci.more,hn⟩
def Db(q:Nat)(W:World)(o:Option Addr)(c:Nat)(us:List LNode)(hi lo p:Nat)(so:Option Addr)(sc:Nat)(O:Nat→Prop)(t:ByteArray)(s':PP)(n':Nat)(e:Ending)(W':World):Prop :=
 e=.returned (.string t)∧∃bb xs ev fv uv,PR q W' o c us hi lo p bb so sc xs ev fv uv s' n'∧SStep q O (OR q p bb xs ev fv uv) W W'
end
def movT(r:Int):ByteArray:=if r=0 then okT else tx [110,111,32]++tx (Lib.itoa r)
theorem doR_code(gs:List PNode)(src:List Int)(s:PP)(m1 m2 m3:Int):0≤(doR gs src s m1 m2 m3).1∧(doR gs src s m1 m2 m3).1≤9:=by
 unfold doR Qp Qk Jn Xn Kr Kz
 repeat' split
 all_goals constructor <;> first|(dsimp only;omega)|simp
theorem move_any(n0 q:Nat)(W:World)(o:Option Addr)(c:Nat)(us:List LNode)(hi lo p bb:Nat)(so:Option Addr)(sc:Nat)(xs:List Value)(ev fv uv:Value)(s:PP)(n:Nat)(ea:Nat→Addr)(m1 m2 m3:Int)(hm:m1≤9223372036854775807)(h:PR q W o c us hi lo p bb so sc xs ev fv uv s n)(hV:Env n0 W ea)(hn:n0≤q) :
  Calls prog 135 #[.pointer (some ⟨q,0,none⟩),.agg #[.int .i64 m1,.int .i64 m2,.int .i64 m3]] W (Db q W o c us hi lo p so sc (OR q p bb xs ev fv uv) (if n=300 then Nb else movT (doR (us.map Zz) (Ke (us.map Zz) us.length) s m1 m2 m3).1) (if n=300 then s else(doR (us.map Zz) (Ke (us.map Zz) us.length) s m1 m2 m3).2) (if n=300 then n else n+1)):=by
 obtain⟨W1,h1⟩:=nmd (W.alloc (.cells #[.int .i64 m1,.int .i64 m2,.int .i64 m3] 127));have hb1:Below W.1.size W W1:=by rw[h1];exact Zk _ _
 have XM:Bx W1 W.1.size [.int .i64 m1,.int .i64 m2,.int .i64 m3]:=by rw[h1];exact Bx.new [.int .i64 m1,.int .i64 m2,.int .i64 m3] _ rfl
 have H1:=Zd h1;have P1:=Zd (h.later hb1);have hqW:q<W.1.size:=h.box.size;have S1:=Zd (SStep.of_below (n:=q) (O:=OR q p bb xs ev fv uv) hb1 (Nat.le_of_lt hqW));have V1:=Zd (hV.step (hb1.mono (Nat.le_of_lt (Nat.lt_of_le_of_lt hn hqW))));have hnl:=h.few;have hsz:=hb1.size;have c4:=P1.o.box.c 4 rfl;have cz:=P1.o.box.size;have HXM:=Zd XM;have HOLD:=Zd (fun b (hb:FO p bb xs ev fv uv b)=>h.flow.old hb);have HIM:=Zd (h.sci.move (src:=Ke (us.map Zz) us.length) h.good.1 m1 m2 m3);clear h hV h1 hb1 XM;go_enter func135,ntmps135
 go_upto_region 1 with fail
 rw[←H1.o];clear H1
 by_cases h300:n=300
 ·subst h300;rw[if_pos rfl,if_pos rfl,if_pos rfl];go_wp2;refine bodyPost_ret (v:=.string ⟨#[119,104,97,116]⟩) (by simp[results,results135,go_sem]) rfl ?_;exact⟨rfl,bb,xs,ev,fv,uv,P1.o,S1.o⟩
 ·rw[if_neg h300,if_neg h300,if_neg h300];have hd:((n:Int)==300)=false:=by simp;omega
  have hw:IntKind.i64.wrap ((n:Int)+1)=(n:Int)+1:=by rw[IntKind.wrap_i64] <;> omega
  have f4:=P1.o.box.f 4 rfl;obtain⟨W2,h2⟩:=nmd (W1.setCell ⟨q,4,none⟩ (.int .i64 ((n:Int)+1)));have P2:=Zd (P1.o.count (by omega));have S2:=Zd (S1.o.trans (SStep.set (n:=q) (O:=OR q p bb xs ev fv uv) (a:=⟨q,4,none⟩) (.inl rfl) (Nat.le_refl _) (.int .i64 ((n:Int)+1))));have X2:=Zd (HXM.o.other (a:=⟨q,4,none⟩) (by dsimp only;omega) (.int .i64 ((n:Int)+1)));rw[←h2]at P2 S2 X2;have H2:=Zd h2;have V2:Zi (Env n0 W2 ea):=by rw[Zi,h2];exact V1.o.step ((Below.refl n0 W1).setCell (p:=⟨q,4,none⟩) hn _)
  have hs2:W2.1.size=W1.1.size:=by rw[h2];simp[World.setCell]
  clear h2 HXM
  go_upto_region 4 with fail
  rw[←H2.o];clear H2 c4 f4 cz;have c3:=P2.o.box.c 3 rfl;have qz:=P2.o.box.size;have hmu:=P2.o.flow;obtain⟨gb,goff,rfl,hgl⟩:∃gb goff,o=some ⟨gb,goff,none⟩∧0<us.length:=by
   have hg:=P2.o.good.1;have h00:Qa (us.map Zz)=0:=by have:=P2.o.pipe;simp[Kv]at this;exact this.1
   have h1:0<us.length:=by have:=(Jw h00).1;rw[Zb]at this;omega
   obtain⟨b,off,e,_,_⟩:=Qw P2.o.gr.in.1 h1;exact⟨b,off,e,h1⟩
  have hRW:=P2.o.sci.raw (by have:=P2.o.few;omega);rw[Zb]at hRW;have hzD:DIn Ja lo W2 (some ⟨gb,goff,none⟩) us:=P2.o.gr.inHi.up Zf P2.o.hi1;have HDO:=Zd (do_any lo W2.drew p bb gb goff c us so sc (Ke (us.map Zz) us.length) xs ev fv uv s m1 m2 m3 (hmu.later (Below.refl _ W2).drew) (hzD.below Zf (Below.refl _ W2).drew) ((fresh_in P2.o.src).below (Below.refl _ W2).drew) (srcP_rng _ _) (Nat.le_trans (srcP_len _ _) (by have:=P2.o.fit.1;omega)) P2.o.good.1.edg (fun j hj=>by have:=P2.o.good.1.cap j (by rw[Zb];exact hj);omega) hRW hm);have C0:Zi (W2.cell? ⟨q,3,none⟩=some (.pointer (some ⟨p,0,none⟩))∧W2.cell? ⟨W.1.size,0,none⟩=some (.int .i64 m1)∧W2.cell? ⟨W.1.size,1,none⟩=some (.int .i64 m2)∧W2.cell? ⟨W.1.size,2,none⟩=some (.int .i64 m3)):=⟨c3,X2.o.c 0 rfl,X2.o.c 1 rfl,X2.o.c 2 rfl⟩;refine Qq (zl:=[6]) (S:=fun Y=>Y.cell? ⟨q,3,none⟩=some (.pointer (some ⟨p,0,none⟩))∧Y.cell? ⟨W.1.size,0,none⟩=some (.int .i64 m1)∧Y.cell? ⟨W.1.size,1,none⟩=some (.int .i64 m2)∧Y.cell? ⟨W.1.size,2,none⟩=some (.int .i64 m3)) (by kernel_rfl) C0.o (fun hH=>?_);refine Zq 0 hH ?_;refine Zq 1 hH ?_;refine Zq 2 hH ?_;refine Zq 3 hH ?_;refine Zq 4 hH ?_;refine Walks.on 5 fun K hK=>?_
  go_simp;refine HDO.o.mono ?_;rintro e w3 ⟨rfl,hFS⟩;obtain⟨bb',xs',ev',fv',uv',P3,S3⟩:=(P2.o.later (Below.refl _ W2).drew).step hFS HIM.o;have hkm:∀i,w3.cell? ⟨W.1.size,i,none⟩=W2.cell? ⟨W.1.size,i,none⟩:=fun i=>World.cell?_of_block (a:=⟨W.1.size,i,none⟩) (S3.block W.1.size X2.o.size fun hO=>hO.elim (fun e=>by omega) fun hF=>by have:=HOLD.o _ hF;omega)
  have HS3:Zi (w3.cell? ⟨q,3,none⟩=some (.pointer (some ⟨p,0,none⟩))∧w3.cell? ⟨W.1.size,0,none⟩=some (.int .i64 m1)∧w3.cell? ⟨W.1.size,1,none⟩=some (.int .i64 m2)∧w3.cell? ⟨W.1.size,2,none⟩=some (.int .i64 m3)):=⟨P3.box.c 3 rfl,(hkm 0).trans (X2.o.c 0 rfl),(hkm 1).trans (X2.o.c 1 rfl),(hkm 2).trans (X2.o.c 2 rfl)⟩;have HP3:=Zd P3;have S4:=Zd ((S2.o.trans (SStep.of_below (Below.refl _ W2).drew (Nat.le_of_lt P2.o.box.size))).trans S3);have V3:=Zd (V2.o.step (((Below.refl _ W2).drew.mono (Nat.le_of_lt (Nat.lt_of_le_of_lt hn P2.o.box.size))).trans (S3.low.mono hn)));have hcode:=doR_code (us.map Zz) (Ke (us.map Zz) us.length) s m1 m2 m3;obtain⟨r,hr⟩:=nmd ((doR (us.map Zz) (Ke (us.map Zz) us.length) s m1 m2 m3).1);rw[←hr]at hcode ⊢;have HR:=Zd hr;clear hr hFS hkm P3 S3 HDO X2 C0 HIM hmu hRW hzD;refine hK.out _ _ (fun _=>HS3.o) (fun _=>?_);clear hK K;refine Walks.on 6 fun K hK=>?_
  go_simp;refine hK.out _ _ (fun h=>absurd h (by decide)) (fun _=>?_);clear hK K;refine Walks.done (by kernel_rfl) ?_ _
  by_cases h0:r=0
  ·have hd0:(r != 0)=false:=by simpa using h0
   have H0:=Zd h0;clear h0;go_wp2;refine bodyPost_ret (v:=.string ⟨#[111,107]⟩) (by simp[results,results135,go_sem]) rfl ?_;exact⟨by rw[←HR.o,movT,if_pos H0.o];rfl,bb',xs',ev',fv',uv',HP3.o,S4.o⟩
  ·have hd0:(r != 0)=true:=by simpa using h0
   have H0:=Zd h0;clear h0;go_wp2_with fail;refine(Vv r (by omega) (by omega) w3 V3.o.now.1).mono ?_;rintro e w4 ⟨rfl,hb4⟩;obtain⟨y,hy⟩:=nmd (tx (Lib.itoa r));have hys:y.size≤100:=by rw[hy];have:=Qx r (by omega) (by omega);show(tx _).size≤100;simp only[tx,ByteArray.size,List.size_toArray];omega
   have hy3:¬9223372036854775807<3+y.size:=by omega
   have HY:=Zd hy;rw[←hy];have HB4:=Zd hb4;clear hy hb4;go_wp2;refine bodyPost_ret (v:=.string (⟨#[110,111,32]⟩++y)) (by simp[results,results135,go_sem]) rfl ?_;exact⟨by rw[←HR.o,movT,if_neg H0.o,←HY.o];rfl,bb',xs',ev',fv',uv',HP3.o.later HB4.o,S4.o.trans (SStep.of_below HB4.o (Nat.le_of_lt HP3.o.box.size))⟩
end
end Go.Proofs.YtdacedbfnlkghaaGreatDoor