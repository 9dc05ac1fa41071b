/- The program's closure that compares two emits. The specification's sort of emits. Emits sorted by the program. SortEmits, the program's and the specification's. What a value means: both sides. No conditions but those written. -/
import Derived.Test.YtdacedbfnlkghaaGreatDoorUMlEo
import Derived.Shelf.SlSortCmp.QuietGrown
import Derived.Shelf.SlSortCmp.NoneTotal
import Derived.Ground.SlsfProg
namespace Go.Proofs.YtdacedbfnlkghaaGreatDoor
set_option maxHeartbeats 8000000
set_option maxRecDepth 10000
open Go.RowKit Go.Proofs.Tryz
section
open Go.RowKit Go.Sort
theorem Bb(W:World):∃q os,W=grow (W.drewN q) os:=⟨0,#[],by rw[grow_empty];rfl⟩
theorem Jp{W V U:World}(h:∃q os,V=grow (W.drewN q) os)(k:∃q os,U=grow (V.drewN q) os):∃q os,U=grow (W.drewN q) os:=by
 obtain⟨q,os,rfl⟩:=h;obtain⟨q',os',rfl⟩:=k;exact⟨q+q',os++os',by show grow (grow ((W.drewN q).drewN q') os) os'=_;rw[grow_grow,World.drewN_drewN]⟩
theorem We(W:World)(o:Obj):∃q os,W.alloc o=grow (W.drewN q) os:=⟨0,#[o],by rw[alloc_eq_grow];rfl⟩
theorem Jh{W V:World}(h:∃q os,V=grow (W.drewN q) os){a:Addr}{v:Value}(hb:a.block<W.1.size)(hc:W.cell? a=some v):V.cell? a=some v:=by
 obtain⟨q,os,rfl⟩:=h;exact cell_grown hb hc q os
theorem Uq{W V:World}(h:∃q os,V=grow (W.drewN q) os):W.1.size≤V.1.size:=by
 obtain⟨q,os,rfl⟩:=h;rw[size_grow];exact Nat.le_add_right _ _
theorem isNaN_is(x:Int)(w:World):Calls prog 276 #[.int .i64 x] w fun e w'=>e=.returned (.bool false)∧w'=w:=by
 have h:(x != x)=false:=by simp
 go_enter func276,ntmps276;go_wp2;go_ret;exact⟨rfl,rfl⟩
def Bt(x y:Int):Int:=if x<y then -1 else if y<x then 1 else 0
theorem Co(x y:Int)(w:World):Calls prog 270 #[.int .i64 x,.int .i64 y] w fun e w'=>e=.returned (.int .i64 (Bt x y))∧w'=w:=by
 rcases(show(x<y)∨(y<x)∨(x=y)from by omega)with h|h|h
 ·have e:Bt x y = -1:=by simp[Bt,h]
  rw[e];have g1:decide (x<y)=true:=by simpa using h
  clear e h;go_enter func270,ntmps270;go_wp2_with (go_at_call 276;refine(isNaN_is _ _).mono ?_;rintro e w1 ⟨rfl,rfl⟩);go_ret;exact⟨rfl,rfl⟩
 ·have e:Bt x y=1:=by rw[Bt,if_neg (by omega),if_pos h]
  rw[e];have g1:decide (x<y)=false:=by simp;omega
  have g2:decide (y<x)=true:=by simpa using h
  clear e h;go_enter func270,ntmps270;go_wp2_with (go_at_call 276;refine(isNaN_is _ _).mono ?_;rintro e w1 ⟨rfl,rfl⟩);go_ret;exact⟨rfl,rfl⟩
 ·have e:Bt x y=0:=by rw[Bt,if_neg (by omega),if_neg (by omega)]
  rw[e];have g1:decide (x<y)=false:=by simp;omega
  have g2:decide (y<x)=false:=by simp;omega
  clear e h;go_enter func270,ntmps270;go_wp2_with (go_at_call 276;refine(isNaN_is _ _).mono ?_;rintro e w1 ⟨rfl,rfl⟩);go_ret;exact⟨rfl,rfl⟩
theorem byNode_is(x1 x2:Int)(W:World):Calls prog 242 #[.agg #[.int .i64 x1,.int .i64 x2]] W fun e w'=>e=.returned (.int .i64 x1)∧∃q os,w'=grow (W.drewN q) os:=by
 go_enter func242,ntmps242;go_wp2;go_ret;exact⟨rfl,We _ _⟩
theorem Cp(x1 x2:Int)(W:World):Calls prog 243 #[.agg #[.int .i64 x1,.int .i64 x2]] W fun e w'=>e=.returned (.int .i64 x2)∧∃q os,w'=grow (W.drewN q) os:=by
 go_enter func243,ntmps243;go_wp2;go_ret;exact⟨rfl,We _ _⟩
def cmpE(x y:Int×Int):Int:=if Bt x.1 y.1=0 then Bt x.2 y.2 else Bt x.1 y.1
theorem Ud{f:FuncId}{args:Array Value}{W:World}{v:Value}(h:Calls prog f args W fun e w'=>e=.returned v∧w'=W):Calls prog f args W fun e w'=>e=.returned v∧∃q os,w'=grow (W.drewN q) os :=
 h.mono fun _ _ ⟨he,hw⟩=>⟨he,by rw[hw];exact Bb W⟩
theorem cmpCl_any(x1 x2 y1 y2:Int)(kb kr:Nat)(W:World)(hb:kb<W.1.size)(hr:kr<W.1.size)(hk:W.cell? ⟨kb,0,none⟩=some (.slice (some ⟨kr,0,none⟩) 2 2))(h0:W.cell? ⟨kr,0,none⟩=some (.func (.func 242) #[] #[]))(h1:W.cell? ⟨kr,1,none⟩=some (.func (.func 243) #[] #[])) :
  Calls prog 269 #[.agg #[.int .i64 x1,.int .i64 x2],.agg #[.int .i64 y1,.int .i64 y2],.pointer (some ⟨kb,0,none⟩)] W fun e w'=>e=.returned (.int .i64 (cmpE (x1,x2) (y1,y2)))∧∃q os,w'=grow (W.drewN q) os:=by
 obtain⟨V,hV⟩:=nmd ((W.alloc (.cells #[.int .i64 x1,.int .i64 x2] 199)).alloc (.cells #[.int .i64 y1,.int .i64 y2] 199));have hG:∃q os,V=grow (W.drewN q) os:=by rw[hV];exact Jp (We _ _) (We _ _)
 have XA:Zi (Bx V W.1.size [.int .i64 x1,.int .i64 x2]):=by rw[hV];exact(Bx.new [.int .i64 x1,.int .i64 x2] _ rfl).alloc _
 have XB:Zi (Bx V (W.1.size+1) [.int .i64 y1,.int .i64 y2]):=by rw[hV];exact Bx.new [.int .i64 y1,.int .i64 y2] _ (by simp)
 have hsz:V.1.size=W.1.size+1+1:=by rw[hV];simp
 have k0:=Jh hG (a:=⟨kr,0,none⟩) hr h0;have k1:=Jh hG (a:=⟨kr,1,none⟩) hr h1;have kk:=Jh hG (a:=⟨kb,0,none⟩) hb hk;have a0:=XA.o.c 0 rfl;have a1:=XA.o.c 1 rfl;have b0:=XB.o.c 0 rfl;have b1:=XB.o.c 1 rfl;have HV:=Zd hV;have HG:=Zd hG;have HSZ:=Zd hsz;clear hV hG h0 h1 XA XB;go_enter func269,ntmps269;go_wp2;rw[←HV.o];clear hk
 go_loopw [11] (fun i wr=>∃k:Nat,i=.int .i64 (k:Int)∧k≤2∧Zi (1≤k→Bt x1 y1=0)∧Zi (2≤k→Bt x2 y2=0)∧Zi (∃q os,wr=grow (V.drewN q) os)) (fun i _=>2-(intOf i).toNat)
 case atStart=>exact⟨0,rfl,by omega,fun h=>by omega,fun h=>by omega,Bb V⟩
 case round =>
  obtain⟨k,rfl,hk,hc1,hc2,hw⟩:=hrel;have r0:=Jh hw.o (a:=⟨kr,0,none⟩) (by simp only[hsz];omega) k0;have r1:=Jh hw.o (a:=⟨kr,1,none⟩) (by simp only[hsz];omega) k1;have rk:=Jh hw.o (a:=⟨kb,0,none⟩) (by simp only[hsz];omega) kk;have ra0:=cell_grown (a:=⟨W.1.size,0,none⟩) (by have:=Uq hw.o;simp only;omega) (Jh hw.o (a:=⟨W.1.size,0,none⟩) (by simp only[hsz];omega) a0);have ra1:=cell_grown (a:=⟨W.1.size,1,none⟩) (by have:=Uq hw.o;simp only;omega) (Jh hw.o (a:=⟨W.1.size,1,none⟩) (by simp only[hsz];omega) a1);have rb0:=cell_grown (a:=⟨W.1.size+1,0,none⟩) (by have:=Uq hw.o;simp only;omega) (Jh hw.o (a:=⟨W.1.size+1,0,none⟩) (by simp only[hsz];omega) b0);have rb1:=cell_grown (a:=⟨W.1.size+1,1,none⟩) (by have:=Uq hw.o;simp only;omega) (Jh hw.o (a:=⟨W.1.size+1,1,none⟩) (by simp only[hsz];omega) b1);have e1:=fun W'=>Ud (Co x1 y1 W')
  have e2:=fun W'=>Ud (Co x2 y2 W')
  clear hsz;have mixed:prog.follows .mixedOrders=true:=by kernel_rfl
  rcases(show k=0∨k=1∨k=2 from by omega)with h|h|h
  ·have H:=Zd h;have rc:wr.cell? ⟨kr,k,none⟩=some (.func (.func 242) #[] #[]):=by rw[h];exact r0
   have hlt:(k:Int)<2:=by omega
   clear h r0 r1
   by_cases hz:Bt x1 y1=0
   ·have hz':(Bt x1 y1 != 0)=false:=by simp[hz]
    have HZ:=Zd hz;clear hz;obtain⟨d,hd⟩:=nmd (Bt x1 y1);rw[←hd]at hz' e1;have HD:=Zd hd;clear hd;go_wp2_with fail
    go_quiet_grown (first|(go_at_call 242;exact Calls.grown_of (byNode_is _ _ _))|(go_at_call 270;exact Calls.grown_of (e1 _)))
    have hw2:=Zd (Jp hw.o ⟨nq,osq,rfl⟩);clear ra0 ra1 rb0 rb1;go_wp2;go_roundw
    case rel=>exact⟨k+1,by go_num,by have:=H.o;omega,fun _=>HZ.o,fun h=>by have:=H.o;omega,hw2⟩
    case measure=>simp[intOf];have:=H.o;omega
   ·have hz':(Bt x1 y1 != 0)=true:=by simp[hz]
    have HZ:=Zd hz;clear hz;obtain⟨d,hd⟩:=nmd (Bt x1 y1);rw[←hd]at hz' e1;have HD:=Zd hd;clear hd;go_wp2_with fail
    go_quiet_grown (first|(go_at_call 242;exact Calls.grown_of (byNode_is _ _ _))|(go_at_call 270;exact Calls.grown_of (e1 _)))
    have hw2:=Zd (Jp hw.o ⟨nq,osq,rfl⟩);clear ra0 ra1 rb0 rb1;go_wp2;go_ret;exact⟨Xc (by rw[HD.o,cmpE];exact(if_neg HZ.o).symm),Jp HG.o hw2.o⟩
  ·have H:=Zd h;have rc:wr.cell? ⟨kr,k,none⟩=some (.func (.func 243) #[] #[]):=by rw[h];exact r1
   have hlt:(k:Int)<2:=by omega
   clear h r0 r1
   by_cases hz:Bt x2 y2=0
   ·have hz':(Bt x2 y2 != 0)=false:=by simp[hz]
    have HZ:=Zd hz;clear hz;obtain⟨d,hd⟩:=nmd (Bt x2 y2);rw[←hd]at hz' e2;have HD:=Zd hd;clear hd;go_wp2_with fail
    go_quiet_grown (first|(go_at_call 243;exact Calls.grown_of (Cp _ _ _))|(go_at_call 270;exact Calls.grown_of (e2 _)))
    have hw2:=Zd (Jp hw.o ⟨nq,osq,rfl⟩);clear ra0 ra1 rb0 rb1;go_wp2;go_roundw
    case rel=>exact⟨k+1,by go_num,by have:=H.o;omega,fun _=>hc1.o (by have:=H.o;omega),fun h=>HZ.o,hw2⟩
    case measure=>simp[intOf];have:=H.o;omega
   ·have hz':(Bt x2 y2 != 0)=true:=by simp[hz]
    have HZ:=Zd hz;clear hz;obtain⟨d,hd⟩:=nmd (Bt x2 y2);rw[←hd]at hz' e2;have HD:=Zd hd;clear hd;go_wp2_with fail
    go_quiet_grown (first|(go_at_call 243;exact Calls.grown_of (Cp _ _ _))|(go_at_call 270;exact Calls.grown_of (e2 _)))
    have hw2:=Zd (Jp hw.o ⟨nq,osq,rfl⟩);clear ra0 ra1 rb0 rb1;go_wp2;go_ret;exact⟨Xc (by rw[HD.o,cmpE];exact(if_pos (hc1.o (by have:=H.o;omega))).symm),Jp HG.o hw2.o⟩
  ·have H:=Zd h;have hlt:¬(k:Int)<2:=by omega
   clear h;go_wp2;go_ret;exact⟨Xc (by rw[cmpE];dsimp only;rw[if_pos (hc1.o (by have:=H.o;omega)),hc2.o (by have:=H.o;omega)]),Jp HG.o hw.o⟩
end
theorem Cy(a1 a2 b1 b2:Int)(w:World):Calls prog 219 #[.agg #[.int .i64 a1,.int .i64 a2],.agg #[.int .i64 b1,.int .i64 b2]] w fun e w'=>e=.returned (.bool (ltE (a1,a2) (b1,b2)))∧Below w.1.size w w':=by
 by_cases h1:a1<b1
 ·have g1:decide (a1<b1)=true:=by simpa using h1
  have e:ltE (a1,a2) (b1,b2)=true:=by simp[ltE,h1]
  rw[e];clear e h1;go_enter func219,ntmps219;go_wp2;go_ret;exact⟨rfl,Qf _ _ _⟩
 ·have g1:decide (a1<b1)=false:=by simpa using h1
  by_cases h2:a1=b1
  ·have g2:(a1==b1)=true:=by simpa using h2
   have e:ltE (a1,a2) (b1,b2)=decide (a2<b2):=by simp[ltE,h2]
   rw[e];clear e h1 h2;go_enter func219,ntmps219;go_wp2;go_ret;exact⟨rfl,Qf _ _ _⟩
  ·have g2:(a1==b1)=false:=by simpa using h2
   have e:ltE (a1,a2) (b1,b2)=false:=by simp[ltE,h2,h1]
   rw[e];clear e h1 h2;go_enter func219,ntmps219;go_wp2;go_ret;exact⟨rfl,Qf _ _ _⟩
def AnsE(w:World)(r:List (Int×Int))(e:Ending)(w':World):Prop:=∃o c,e=.returned (.slice o r.length c)∧kE.Fresh w.1.size w'.1.size w' o c r∧Below w.1.size w w'
theorem l11Sort_any(ao:Option Addr)(cap:Nat)(ts:List (Int×Int))(w:World)(hl:ts.length≤1048576)(hz:kE.In w.1.size w ao ts)(hwf:ao=none→cap=0) :
  Calls prog 185 #[.slice ao ts.length cap] w fun e w'=>AnsE w (Yz ts) e w':=by
 have HE0:Zi (kE.Own w.1.size (w.alloc (.cells #[] kE.ty)) (.slice (some ⟨w.1.size,0,none⟩) 0 0) []):=Kind.Own.new kE _ w (Nat.le_refl _);have HZ0:Zi (kE.In w.1.size (w.alloc (.cells #[] kE.ty)) ao ts):=hz.below (Zk _ _);clear hz;go_enter func185,ntmps185;go_wp2_with (at_builtin;refine Kind.app kE_ok (w.alloc (.cells #[] kE.ty)) rfl (.tmp 7) (.tmp 8) rfl w.1.size (.slice (some ⟨w.1.size,0,none⟩) 0 0) [] rfl HE0.o (by simp) ao ts ts.length cap rfl rfl hwf _ HZ0.o (by simp;omega) ?_;intro v w1 hO hB _ hn;obtain⟨g,c,rfl,_⟩:=Kind.Own.some hO (hn some_ne);rw[List.nil_append]at hO ⊢;obtain⟨go,gc,eg,_,hF⟩:=hO.fresh;obtain⟨rfl,rfl⟩:some ⟨g,0,none⟩=go∧c=gc:=(by simp at eg;exact eg);have hB1:Below w.1.size w w1:=(Zk w _).trans hB;have H1:=Zd hF;clear eg hO hn hB hF HE0 HZ0)
 go_loopw [12] (fun i wr=>∃(k:Nat)(ys:List (Int×Int)),i=.int .i64 (k:Int)∧k≤ts.length∧ys.length=ts.length∧Zi (ys.Perm ts)∧Zi (Cu ys k)∧Zi (kE.Fresh w.1.size w1.1.size wr (some ⟨g,0,none⟩) c ys)∧Below w.1.size w wr∧Zi (w1.1.size≤wr.1.size)) (fun i _=>ts.length-(intOf i).toNat)
 case atStart=>exact⟨0,ts,rfl,Nat.zero_le _,rfl,List.Perm.refl _,fun a b h1 h2=>by omega,H1,hB1,Nat.le_refl _⟩
 case round =>
  obtain⟨k,ys,rfl,hk,hyl,hP,hS,hY,hBw,hsz⟩:=hrel
  by_cases hlt:k<ts.length
  ·have HS:=Zd (sort_start hS.o);clear hS;go_wp2
   go_loopw [5] (fun i wr=>∃(j:Nat)(ys:List (Int×Int)),i=.int .i64 (j:Int)∧j≤k∧ys.length=ts.length∧Zi (ys.Perm ts)∧Zi (Hq ys k j)∧Zi (kE.Fresh w.1.size w1.1.size wr (some ⟨g,0,none⟩) c ys)∧Below w.1.size w wr∧Zi (w1.1.size≤wr.1.size)) (fun i _=>(intOf i).toNat)
   case atStart=>exact⟨k,ys,rfl,Nat.le_refl _,hyl,hP,HS,hY,hBw,hsz⟩
   case round =>
    clear HS hP hY hBw hsz hyl ys;obtain⟨j,ys,rfl,hjk,hyl,hP,hS,hY,hBw,hsz⟩:=hrel
    rcases j with _|m
    ·have HT:=Zd (sort_stop0 hS.o);have h0:decide ((0:Int)<((0:Nat):Int))=false:=by decide
     have hYd:Zi (∀n,kE.Fresh w.1.size w1.1.size (wr.drewN n) (some ⟨g,0,none⟩) c ys):=fun n=>hY.o.keep fun _ _ _ _=>rfl
     clear hS;go_wp2
     go_quiet (fail)
     go_wp2;go_roundw
     case rel=>exact⟨k+1,ys,by go_num,by omega,hyl,hP,HT,Zd (hYd.o _),Zc hBw _,hsz⟩
     case measure=>simp[intOf];omega
    ·have hmy:m+1<ys.length:=by omega
     have hm0:m<ys.length:=by omega
     obtain⟨b0,off,eb,hb0,hc⟩:=kE_at hY.o.in hm0;obtain⟨rfl,rfl⟩:g=b0∧0=off:=by simp at eb;exact⟨eb.1,eb.2⟩
     have cm:=hc m hm0;have cj:=hc (m+1) hmy;simp only[Nat.zero_add]at cm cj;obtain⟨⟨x1,x2⟩,hx⟩:∃x,x=el ys (m+1):=⟨_,rfl⟩;obtain⟨⟨y1,y2⟩,hy⟩:∃y,y=el ys m:=⟨_,rfl⟩;rw[←hy]at cm;rw[←hx]at cj;dsimp only at cm cj;have HX:=Zd hx;have HYY:=Zd hy;clear hc eb hx hy;obtain⟨j,hj⟩:∃j:Nat,j=m+1:=⟨_,rfl⟩;rw[←hj]at cj ⊢;have hgt:0<j:=by omega
     have HJ:=Zd hj;have hjm:(j:Int)-1=(m:Int):=by omega
     have hjl:(j:Int)<(ts.length:Int):=by omega
     have hml:(m:Int)<(ts.length:Int):=by omega
     have q1:=Later.cell cj.1 hb0;have q2:=Later.cell cj.2 hb0;have q3:=Later.cell cm.1 hb0;have q4:=Later.cell cm.2 hb0
     have hNE:=Vz wr;clear hj
     rcases hc:ltE (x1,x2) (y1,y2)with _|_
     ·have HT:=Zd (sort_stop hS.o (by have:=HJ.o;omega) (by rw[←HX.o,←HYY.o];exact hc));have HC:=Zd hc;clear hS hc cm cj;go_wp2_with fail;refine Qo wr (by kernel_rfl) (by kernel_rfl) (Below.refl _ _) ?_;have hless:∀W:World,Calls prog 219 #[.agg #[.int .i64 x1,.int .i64 x2],.agg #[.int .i64 y1,.int .i64 y2]] W fun e w'=>e=.returned (.bool false)∧Below W.1.size W w':=fun W=>by have h:=Cy x1 x2 y1 y2 W;rw[HC.o]at h;exact h
      repeat(go_big_quiet_step (first|(go_at_call 219;exact Calls.later (hless _))))
      refine wpQuiet_nil ?_;rintro w4 ⟨⟨w5,hb4⟩,hw5⟩;obtain rfl:w4=w5:=hw5;have hB4:Below w.1.size w w4:=hBw.trans (hb4.mono hBw.size);have hs4:Zi (w1.1.size≤w4.1.size):=Nat.le_trans hsz.o hb4.size;have Y4:Zi (kE.Fresh w.1.size w1.1.size w4 (some ⟨g,0,none⟩) c ys):=hY.o.later hb4;clear q1 q2 q3 q4 hNE hb4 hY hBw hsz hless;go_wp2;go_roundw
      case rel=>exact⟨k+1,ys,by go_num,by omega,hyl,hP,HT,Y4,hB4,hs4⟩
      case measure=>simp[intOf];omega
     ·have HT:=Zd (sort_swap hS.o (by have:=HJ.o;omega) (by omega) (by rw[←HX.o,←HYY.o];exact hc));have HC:=Zd hc;have HP2:=Zd ((swapL_perm hmy).trans hP.o);have hl2:(Nt ys m).length=ts.length:=by rw[Pl];exact hyl
      clear hS hc cm cj;go_wp2_with fail;refine Qo wr (by kernel_rfl) (by kernel_rfl) (Below.refl _ _) ?_;have hless:∀W:World,Calls prog 219 #[.agg #[.int .i64 x1,.int .i64 x2],.agg #[.int .i64 y1,.int .i64 y2]] W fun e w'=>e=.returned (.bool true)∧Below W.1.size W w':=fun W=>by have h:=Cy x1 x2 y1 y2 W;rw[HC.o]at h;exact h
      repeat(go_big_quiet_step (first|(go_at_call 219;exact Calls.later (hless _))))
      refine wpQuiet_nil ?_;rintro w4 ⟨⟨w5,hb4⟩,hw5⟩;obtain rfl:w4=w5:=hw5;have hB4:Below w.1.size w w4:=hBw.trans (hb4.mono hBw.size);have hs4:Zi (w1.1.size≤w4.1.size):=Nat.le_trans hsz.o hb4.size;have Y4:Zi (kE.Fresh w.1.size w1.1.size w4 (some ⟨g,0,none⟩) c ys):=hY.o.later hb4;have c1:w4.cell? ⟨g,j*2,none⟩=some (.int .i64 x1):=q1 ⟨w4,hb4⟩;have c2:w4.cell? ⟨g,j*2+1,none⟩=some (.int .i64 x2):=q2 ⟨w4,hb4⟩;have c3:w4.cell? ⟨g,m*2,none⟩=some (.int .i64 y1):=q3 ⟨w4,hb4⟩;have c4:w4.cell? ⟨g,m*2+1,none⟩=some (.int .i64 y2):=q4 ⟨w4,hb4⟩;obtain⟨g2,e2,hg1,hg2,hg3,ho⟩:=Y4.o.at (show 0<ys.length by omega);obtain rfl:g=g2:=by simp at e2;exact e2
      have f1:w4.frozen? ⟨g,j*2,none⟩=false:=ho.frozenAt _;have f2:w4.frozen? ⟨g,j*2+1,none⟩=false:=ho.frozenAt _;have f3:w4.frozen? ⟨g,m*2,none⟩=false:=ho.frozenAt _;have f4:w4.frozen? ⟨g,m*2+1,none⟩=false:=ho.frozenAt _;have hne:j≠m:=by have:=HJ.o;omega
      have HG1:=Zd hg1;clear q1 q2 q3 q4 hNE hb4 hY hBw hsz hless ho e2 hg2 hg1;go_wp2;go_roundw
      case rel =>
       refine⟨m,Nt ys m,by go_num,by have:=HJ.o;omega,hl2,HP2,HT,?_,?_,?_⟩
       ·have h:=kE_stored Y4.o hmy;rw[←HX.o,←HYY.o,←HJ.o]at h;exact Zd (h.later (Zk _ _))
       ·exact Zx ((((hB4.setCell (p:=⟨g,j*2,none⟩) HG1.o _).setCell (p:=⟨g,j*2+1,none⟩) HG1.o _).setCell (p:=⟨g,m*2,none⟩) HG1.o _).setCell (p:=⟨g,m*2+1,none⟩) HG1.o _) _
       ·have:=hs4.o;unfold Zi;simp[World.setCell];omega
      case measure=>simp[intOf];have:=HJ.o;omega
  ·obtain rfl:k=ts.length:=by omega
   have HS2:Zi (Cu ys ys.length):=by rw[hyl];exact hS
   go_wp2;go_ret;have e:=sorted_all hP.o HS2.o;refine⟨_,_,by rw[Ps];rfl,?_,hBw⟩;rw[←e];exact hY.o.wide (Nat.le_refl _) hsz.o
section
open Go.RowKit Go.Sort Go.Shelf Go.Lib
shelf_lay_g SlLaysF0.n6 Slsf 6 at Tryz 268 as Tryz.sortEm
theorem Rp(x y:Int×Int):ltOf cmpE x y=ltE x y:=by
 unfold ltOf cmpE Bt ltE
 rcases(show x.1<y.1∨y.1<x.1∨x.1=y.1 from by omega)with h|h|h
 ·simp[h]
 ·have h1:¬x.1<y.1:=by omega
  have h2:¬x.1=y.1:=by omega
  simp[h,h1,h2]
 ·rcases(show x.2<y.2∨y.2<x.2∨x.2=y.2 from by omega)with k|k|k
  ·simp[h,k]
  ·have k1:¬x.2<y.2:=by omega
   simp[h,k,k1]
  ·have k1:¬x.2<y.2:=by omega
   have k2:¬y.2<x.2:=by omega
   simp[h,k1,k2]
theorem cmpE_swo:SWO (ltOf cmpE) where
 irrefl x:=by rw[Rp,ltE_no];omega
 trans x y z h1 h2:=by rw[Rp,ltE_yes]at *;omega
 ntrans x y z h1 h2:=by rw[Rp,ltE_no]at *;omega
theorem cmpE_total:∀x y,(ltOf cmpE) x y=false→(ltOf cmpE) y x=false→x=y:=fun x y h1 h2=>by
 rw[Rp]at h1 h2;exact ltE_eq h2 h1
theorem flatK_kE(ts:List (Int×Int)):(flatK kE.enc 2 ts.toArray).toList=kE.flat ts:=by
 refine kE.flat_of _ ts (by simp[kE]) fun j hj i hi=>?_
 have hi':i<2:=hi;have hsz:kE.sz=2:=rfl;rw[hsz];have ht:j*2+i<ts.toArray.size*2:=by simp;omega
 have hg:=get_flatK kE.enc 2 ts.toArray (j*2+i) ht;have e1:(j*2+i) / 2=j:=by omega
 have e2:(j*2+i) % 2=i:=by omega
 rw[e1,e2]at hg;have ht':j*2+i<(flatK kE.enc 2 ts.toArray).size:=by rw[size_flatK];exact ht
 rw[getElem!_pos (flatK kE.enc 2 ts.toArray) (j*2+i) ht']at hg;have hj':j<ts.toArray.size:=by simpa using hj
 rw[getElem!_pos ts.toArray j hj']at hg;rw[Array.getElem?_toList,Array.getElem?_eq_getElem ht',hg,Km hj];have hl:i<(kE.enc ts[j]).length:=by rw[kE.len];exact hi
 simp only[List.getElem_toArray];rw[getElem!_pos (kE.enc ts[j]) i hl,List.getElem?_eq_getElem hl]
theorem kE_holds{lo hi:Nat}{W:World}{g c:Nat}{ts:List (Int×Int)}(h:kE.Fresh lo hi W (some ⟨g,0,none⟩) c ts)(hn:0<ts.length):HoldsK kE.enc 2 W g 0 ts.toArray:=by
 obtain⟨g2,e2,_,_,_,ho⟩:=h.at hn;obtain rfl:g=g2:=by simp at e2;exact e2
 intro j hj;rw[Nat.zero_add];refine⟨?_,ho.frozenAt j⟩;rw[ho.cellAt j (by simpa[kE]using hj)];rw[←flatK_kE,Array.getElem?_toList,Array.getElem?_eq_getElem hj,getElem!_pos (flatK kE.enc 2 ts.toArray) j hj];rfl
theorem kE_sorted{lo hi:Nat}{W:World}{g c n:Nat}{os:Array Obj}{ts us:List (Int×Int)}(h:kE.Fresh lo hi W (some ⟨g,0,none⟩) c ts)(hn:0<ts.length)(hl:us.length=ts.length) :
  kE.Fresh lo hi (sortWorldK kE.enc 2 W g 0 n us.toArray os) (some ⟨g,0,none⟩) c us∧Below lo W (sortWorldK kE.enc 2 W g 0 n us.toArray os):=by
 obtain⟨g2,e2,hg1,hg2,hg3,ho⟩:=h.at hn;obtain rfl:g=g2:=by simp at e2;exact e2
 have hoth:∀k,k<W.1.size→k≠g→(sortWorldK kE.enc 2 W g 0 n us.toArray os).heap[k]? = W.heap[k]? := fun k hk hne=>by
  simp only[sortWorldK,grow,putRowK,putRow,mapBlock];rw[Array.getElem?_append_left (by simpa[ahead]using hk),Array.getElem?_modify,if_neg (Ne.symm hne)];rfl
 refine⟨?_,rfl,rfl,rfl,size_sortWorldK_c _ _ _ _ _ _ _ _,fun k hk=>hoth k (by omega) (by omega)⟩;obtain⟨hfl,h2⟩:=ho
 rcases h2 with⟨h',_⟩|⟨g',cap',cur,h',hb,hg,k1,k2,k3,k4⟩
 ·simp at h'
 simp only[Value.slice.injEq,Option.some.injEq,Addr.mk.injEq,and_true,true_and]at h';obtain⟨rfl,rfl⟩:=h';have hF:(flatK kE.enc 2 us.toArray).size=ts.length*2:=by rw[size_flatK];simp[hl]
 have hblk:(sortWorldK kE.enc 2 W g 0 n us.toArray os).heap[g]? = some (.cells (putCells id 0 (flatK kE.enc 2 us.toArray) cur) kE.ty (0,0)):=by
  simp only[sortWorldK,grow,putRowK,putRow,mapBlock];rw[Array.getElem?_append_left (by simpa[ahead]using hg3),Array.getElem?_modify,if_pos rfl,show(Sort.ahead W n).heap[g]? = W.heap[g]? from rfl,hg];rfl
 refine .inr ⟨g,rfl,hg2,kE.flat_len us,.inr ⟨g,c,_,by rw[hl],hb,hblk,by rw[hl];exact k1,k2,by simpa[putCells]using k3,?_⟩⟩;rw[←flatK_kE us];refine List.ext_getElem? fun t=>?_
 have hcs:ts.length*2≤cur.size:=by rw[k3];exact Nat.mul_le_mul_right _ k1
 have hsz:us.length*kE.sz=ts.length*2:=by rw[hl];rfl
 rw[hsz]
 by_cases ht:t<ts.length*2
 ·have htF:t<(flatK kE.enc 2 us.toArray).size:=by rw[hF];exact ht
  rw[List.getElem?_take_of_lt ht,Array.getElem?_toList,Array.getElem?_toList,putCells,Array.getElem?_mapIdx,Array.getElem?_eq_getElem (show t<cur.size by omega),Option.map_some,if_pos ⟨Nat.zero_le _,by omega⟩,Array.getElem?_eq_getElem htF,Nat.sub_zero,getElem!_pos (flatK kE.enc 2 us.toArray) t htF];rfl
 ·rw[List.getElem?_eq_none (by simp;omega),List.getElem?_eq_none (by simp[hl];omega)]
theorem sortedBy_any(ao:Option Addr)(cap:Nat)(ts:List (Int×Int))(kr:Nat)(w:World)(hl:ts.length≤1048576)(hz:kE.In w.1.size w ao ts)(hr:kr<w.1.size)(h0:w.cell? ⟨kr,0,none⟩=some (.func (.func 242) #[] #[]))(h1:w.cell? ⟨kr,1,none⟩=some (.func (.func 243) #[] #[])) :
  Calls prog 244 #[.slice ao ts.length cap,.slice (some ⟨kr,0,none⟩) 2 2] w fun e w'=>AnsE w (Yz ts) e w':=by
 obtain⟨V,hV⟩:=nmd (w.alloc (.cells #[.slice (some ⟨kr,0,none⟩) 2 2] 296));have hb:Below w.1.size w V:=by rw[hV];exact Zk _ _
 have XK:Zi (Bx V w.1.size [.slice (some ⟨kr,0,none⟩) 2 2]):=by rw[hV];exact Bx.new [.slice (some ⟨kr,0,none⟩) 2 2] _ rfl
 have hs:V.1.size=w.1.size+1:=by rw[hV];simp
 have c0:=(hb.cell (p:=⟨kr,0,none⟩) hr).trans h0;have c1:=(hb.cell (p:=⟨kr,1,none⟩) hr).trans h1;have hzV:=hz.later hb;have HV:=Zd hV;have HC:=Zd (And.intro c0 c1);clear hV h0 h1 hz c0 c1;go_enter func244,ntmps244;go_wp2_with fail;rw[←HV.o];refine(copyListE_any ao cap ts V hl hzV).mono ?_;rintro e w1 ⟨⟨t9,rfl,hF⟩,hB1⟩;have hBw:Below w.1.size w w1:=hb.trans (hB1.mono hb.size)
 rcases Nat.eq_zero_or_pos ts.length with hn|hn
 ·obtain rfl:ts=[]:=List.length_eq_zero_iff.1 hn;have hcon:=AnyF.slices_SortFunc_none (P:=prog) { Tryz.sortEm with } t9 0 (.func (.func 269) #[] #[.pointer (some ⟨w.1.size,0,none⟩)]) w1
  change Calls prog 268 _ _ _ at hcon
  have HB:=Zd hBw;clear hn hF hB1 hBw XK HC hzV hl hs hr HV hb;go_wp2_with (go_at_call 268;refine hcon.mono ?_;rintro e w' ⟨rfl,rfl⟩);go_ret;exact⟨_,_,by rw[show Yz []=[]from by simp[Yz]];rfl,by rw[show Yz []=[]from by simp[Yz]];exact Kind.Fresh.nil _ _ _ _ _ _,HB.o⟩
 ·obtain⟨g,rfl,hg1,hg2,hg3,_⟩:=hF.at hn;have hsz1:=hB1.size;have hcmp:CmpLays prog 269 #[.pointer (some ⟨w.1.size,0,none⟩)] kE.enc 2 cmpE g 0 ts.toArray.size w1:=by
   intro m os dk hdk x y;have hcell:∀a:Addr,a.block<V.1.size→∀v,V.cell? a=some v→(sortWorldK kE.enc 2 w1 g 0 m dk os).cell? a=some v:=fun a ha v hv=>by
    unfold sortWorldK
    rw[cell?_grow _ _ _ (by rw[size_putRowK];exact Nat.lt_of_lt_of_le ha hsz1),cell?_putRowK_other _ _ _ _ _ _ a (by omega)];exact(hB1.cell ha).trans hv
   have hsw:=size_sortWorldK_c kE.enc 2 w1 g 0 m dk os;exact cmpCl_any x.1 x.2 y.1 y.2 w.1.size kr _ (by omega) (by omega) (hcell ⟨w.1.size,0,none⟩ (by simp only[hs];omega) _ (XK.o.c 0 rfl)) (hcell ⟨kr,0,none⟩ (by simp only[hs];omega) _ HC.o.1) (hcell ⟨kr,1,none⟩ (by simp only[hs];omega) _ HC.o.2)
  have eg:∀args w,(callFunc 269 args).run prog w=.ok (.enter 269 args) w:=enters_of func269 (by kernel_rfl) rfl;have hcon:=AnyQ.slices_SortFunc_total Tryz.sortEm 2 Tryz.isAgg199 Tryz.sizeOf199 kE.enc kE.len kE.one cmpE cmpE_swo 269 #[.pointer (some ⟨w.1.size,0,none⟩)] g 0 ts.length ts.toArray w1 eg hcmp (kE_holds hF hn) hg3 (by simp;omega) cmpE_total
  change Calls prog 268 _ _ _ at hcon
  rw[show(ts.toArray.toList.mergeSort fun x y => !(ltOf cmpE) y x)=Yz ts from by simp only[Rp,Yz],show ts.toArray.size=ts.length from by simp]at hcon;have HF:=Zd (fun n os=>kE_sorted (n:=n) (os:=os) hF hn (Ps ts));have HB:=Zd hBw;have HS:=Zd hsz1;have HVS:=Zd hs;clear hn hF hB1 hBw XK HC hzV hs hr HV hb hcmp eg hsz1;go_wp2_with (go_at_call 268;refine hcon.mono ?_;rintro e w2 ⟨rfl,n,os,rfl⟩);go_ret;have h:=HF.o n os;have hv:=HVS.o;refine⟨_,_,by rw[Ps];rfl,(h.1.wide (by omega) (size_sortWorldK_c _ _ _ _ _ _ _ _)),HB.o.trans (h.2.mono (by omega))⟩
end
def Pr(ts:List (Int×Int)):List (Int×Int)×Bool:=if 400<ts.length then([],false)else(Yz ts,true)
def AnsEB(w:World)(R:List (Int×Int)×Bool)(e:Ending)(w':World):Prop :=
 (∃o c,e=.returned (.tuple #[.slice o R.1.length c,.bool R.2])∧kE.Fresh w.1.size w'.1.size w' o c R.1)∧Below w.1.size w w'
theorem implSort_any(ao:Option Addr)(cap:Nat)(ts:List (Int×Int))(w:World)(hl:ts.length≤1048576)(hz:kE.In w.1.size w ao ts) :
  Calls prog 209 #[.slice ao ts.length cap] w fun e w'=>AnsEB w (Pr ts) e w':=by
 by_cases h:400<ts.length
 ·have e:Pr ts=([],false):=if_pos h;rw[e];have h':decide ((400:Int)<(ts.length:Int))=true:=by simp;omega
  clear e h;go_enter func209,ntmps209;go_wp2;refine bodyPost_ret (v:=.tuple #[.slice none 0 0,.bool false]) (by simp[results,results209,go_sem]) rfl ?_;exact⟨⟨none,0,rfl,Kind.Fresh.nil _ _ _ _ _ _⟩,Below.refl _ _⟩
 ·have e:Pr ts=(Yz ts,true):=if_neg h;rw[e];have h':decide ((400:Int)<(ts.length:Int))=false:=by simp;omega
  clear e h;obtain⟨V,hV⟩:=nmd (w.alloc (.cells #[.func (.func 242) #[] #[],.func (.func 243) #[] #[]] 274));have hb:Below w.1.size w V:=by rw[hV];exact Zk _ _
  have XK:Zi (Bx V w.1.size [.func (.func 242) #[] #[],.func (.func 243) #[] #[]]):=by rw[hV];exact Bx.new [.func (.func 242) #[] #[],.func (.func 243) #[] #[]] _ rfl
  have hs:w.1.size<V.1.size:=by rw[hV];simp
  have hcon:=sortedBy_any ao cap ts w.1.size V hl (hz.later hb) hs (XK.o.c 0 rfl) (XK.o.c 1 rfl);have HV:=Zd hV;have HB:=Zd hb;clear hV XK hz hs hb;go_enter func209,ntmps209;go_wp2_with fail;rw[←HV.o];refine hcon.mono ?_;rintro e w1 ⟨o,c,rfl,hF,hB⟩;have H:=Zd (And.intro (hF.wide HB.o.size (Nat.le_refl _)) (HB.o.trans (hB.mono HB.o.size)));clear hF hB;go_wp2;refine bodyPost_ret (v:=.tuple #[.slice o (Yz ts).length c,.bool true]) (by simp[results,results209,go_sem]) rfl ?_;exact⟨⟨o,c,rfl,H.o.1⟩,H.o.2⟩
def Xy(gs:List PNode)(k v:Int):List (Int×Int)×Bool :=
 if Qa gs=0∧0≤k∧k<(gs.length:Int)∧Ju v=true∧Ue gs≤100000 then Pr (Xl gs k.toNat v)else([],false)
theorem Tv(l:List (Int×Int)):(Yz l).Perm l:=List.mergeSort_perm _ _
theorem sortE_same{l r:List (Int×Int)}(h:l.Perm r):Yz l=Yz r:=Tx _ _ ((Tv l).trans (h.trans (Tv r).symm)) (Tw l) (Tw r)
theorem sortR_same{l r:List (Int×Int)}(h:l.Perm r):Pr l=Pr r:=by unfold Pr;rw[h.length_eq,sortE_same h]
theorem good_sts{gs:List PNode}(h:brk gs 2=false):Wy gs:=fun k hk=>by
 have:=brk_at h hk;simp only[Kn,Int.toNat_natCast]at this
 simpa using this
theorem implMean_is(ao:Option Addr)(cap:Nat)(ts:List LNode)(k v:Int)(ea:Nat→Addr)(w:World)(hC:Roomy ts cap)(hE:Errs w ea)(hz:DIn Ja w.1.size w ao ts) :
  Calls prog 170 #[.slice ao ts.length cap,.int .i64 k,.int .i64 v] w (AnsEB w (Xy (ts.map Zz) k v)):=by
 have hcon:=Ge ao cap ts ea w hC hE hz;have HZ:=Zd hz;have HFi:=Zd hC.fitN;have hgl:(ts.map Zz).length=ts.length:=Zb ts;clear hz hE hC
 by_cases h0:Qa (ts.map Zz)=0
 ·obtain⟨hm,hbk,hor⟩:=Jw h0;have HED:=Zd (Nv (by omega) (hbk 4 (by omega)));have HOR:=Zd hor;have HGS:=Zd (good_sts (hbk 2 (by omega)));have h1:1≤ts.length:=by rw[Zb]at hm;omega
  rw[decide_eq_true h0]at hcon;have H0:=Zd h0;have HGL:=Zd hgl;clear h0 hm hbk hor hgl
  by_cases hk1:k<0
  ·have HV:Zi (Xy (ts.map Zz) k v=([],false)):=if_neg (by omega);go_enter func170,ntmps170;go_wp2_with fail;refine hcon.mono ?_;rintro e w1 ⟨rfl,hb1⟩;have hB1:Below w.1.size w w1:=hb1;clear hb1;go_wp2;rw[HV.o];refine bodyPost_ret (v:=.tuple #[.slice none 0 0,.bool false]) (by simp[results,results170,go_sem]) rfl ?_;exact⟨⟨none,0,rfl,Kind.Fresh.nil _ _ _ _ _ _⟩,hB1⟩
  ·have hk1':0≤k:=by omega
   by_cases hk2:(ts.length:Int)≤k
   ·have HV:Zi (Xy (ts.map Zz) k v=([],false)):=if_neg (by have:=HGL.o;omega);go_enter func170,ntmps170;go_wp2_with fail;refine hcon.mono ?_;rintro e w1 ⟨rfl,hb1⟩;have hB1:Below w.1.size w w1:=hb1;clear hb1;go_wp2;rw[HV.o];refine bodyPost_ret (v:=.tuple #[.slice none 0 0,.bool false]) (by simp[results,results170,go_sem]) rfl ?_;exact⟨⟨none,0,rfl,Kind.Fresh.nil _ _ _ _ _ _⟩,hB1⟩
   ·have hk2':k<(ts.length:Int):=by omega
    cases hv:Ju v with
    |false =>
     have HV:Zi (Xy (ts.map Zz) k v=([],false)):=if_neg (by rw[hv];simp);go_enter func170,ntmps170;go_wp2_with fail;refine hcon.mono ?_;rintro e w1 ⟨rfl,hb1⟩;have hB1:Below w.1.size w w1:=hb1;clear hb1;go_wp2_with fail;refine(Jv v _ false hv).mono ?_;rintro e w2 ⟨rfl,rfl⟩;dsimp only;go_wp2;rw[HV.o];refine bodyPost_ret (v:=.tuple #[.slice none 0 0,.bool false]) (by simp[results,results170,go_sem]) rfl ?_;exact⟨⟨none,0,rfl,Kind.Fresh.nil _ _ _ _ _ _⟩,hB1⟩
    |true =>
     by_cases hw:100000<Ue (ts.map Zz)
     ·have HV:Zi (Xy (ts.map Zz) k v=([],false)):=if_neg (by omega);have hw':decide (100000<Ue (ts.map Zz))=true:=by simpa using hw
      have HVV:=Zd hv;go_enter func170,ntmps170;go_wp2_with fail;refine hcon.mono ?_;rintro e w1 ⟨rfl,hb1⟩;have hB1:Below w.1.size w w1:=hb1;clear hb1;go_wp2_with fail;refine(Jv v _ true HVV.o).mono ?_;rintro e w2 ⟨rfl,rfl⟩;dsimp only;go_wp2_with fail;refine(Yh ao cap ts w2 HFi.o (by omega) HED.o (HZ.o.later Zf hB1)).mono ?_;rintro e w3 ⟨rfl,hb3⟩;have hB3:=hB1.trans (hb3.mono hB1.size);clear hb3;dsimp only;go_wp2;rw[HV.o];refine bodyPost_ret (v:=.tuple #[.slice none 0 0,.bool false]) (by simp[results,results170,go_sem]) rfl ?_;exact⟨⟨none,0,rfl,Kind.Fresh.nil _ _ _ _ _ _⟩,hB3⟩
     ·have HV:Zi (Xy (ts.map Zz) k v=Pr (Xl (ts.map Zz) k.toNat v)):=if_pos ⟨H0.o,hk1',by rw[HGL.o];exact hk2',hv,by omega⟩;have hw':decide (100000<Ue (ts.map Zz))=false:=by simpa using hw
      have HVV:=Zd hv;obtain⟨n,rfl⟩:∃n:Nat,k=(n:Int):=⟨k.toNat,by omega⟩;rw[Int.toNat_natCast]at HV;have HWW:Zi (Ue (ts.map Zz)≤100000):=by rw[Zi];omega
      have hnl:n<ts.length:=by omega
      have HPM:=Zd (sortR_same (emit_perm (Ka HOR.o) HED.o (k:=n) (by rw[HGL.o];exact hnl) v));have HML:=Zd (Int.le_trans (mean_len (Ka HOR.o) HED.o HGS.o _ n v (by rw[HGL.o];exact hnl) (Nat.le_refl _)) (Int.le_trans (wdP_le (by rw[HGL.o];exact hnl)) HWW.o));have HPL:=Zd ((emit_perm (Ka HOR.o) HED.o (k:=n) (by rw[HGL.o];exact hnl) v).length_eq);rw[←HPM.o]at HV;go_enter func170,ntmps170;go_wp2_with fail;refine hcon.mono ?_;rintro e w1 ⟨rfl,hb1⟩;have hB1:Below w.1.size w w1:=hb1;clear hb1;go_wp2_with fail;refine(Jv v _ true HVV.o).mono ?_;rintro e w2 ⟨rfl,rfl⟩;dsimp only;go_wp2_with fail;refine(Yh ao cap ts w2 HFi.o (by omega) HED.o (HZ.o.later Zf hB1)).mono ?_;rintro e w3 ⟨rfl,hb3⟩;have hB3:=hB1.trans (hb3.mono hB1.size);clear hb3;dsimp only;go_wp2_with fail;refine(emitsOf_is ao cap ts w3 n v HED.o HOR.o HGS.o hnl HVV.o HWW.o HFi.o (HZ.o.later Zf hB3)).mono ?_;rintro e w4 ⟨⟨go4,gc4,rfl,hno4,hF4⟩,hb4⟩;have HF4:=Zd hF4.in;have hB4:=hB3.trans (hb4.mono hB3.size);have hl4:(emitP (ts.map Zz) n v).length≤1048576:=by
       have h1:=HML.o;have h2:=HPL.o
       unfold emitP
       omega
      have HV':Zi (Xy (ts.map Zz) (n:Int) v=Pr (emitP (ts.map Zz) n v)):=HV.o;clear hF4 hb4 HML HPL HPM HV
      generalize emitP (ts.map Zz) n v=E at HF4 hl4 HV'
      dsimp only;go_wp2_with fail;refine(implSort_any go4 gc4 E w4 hl4 HF4.o).mono ?_;rw[←HV'.o];rintro e w5 ⟨⟨o5,c5,rfl,hF5⟩,hb5⟩;have hB5:=hB4.trans (hb5.mono hB4.size);have HF5:=Zd hF5;clear hF5 hb5;dsimp only;go_wp2;refine bodyPost_ret (v:=.tuple #[.slice o5 (Xy (ts.map Zz) (n:Int) v).1.length c5,.bool (Xy (ts.map Zz) (n:Int) v).2]) (by simp[results,results170,go_sem]) rfl ?_;exact⟨⟨o5,c5,rfl,HF5.o.wide hB4.size (Nat.le_refl _)⟩,hB5⟩
 ·have HV:Zi (Xy (ts.map Zz) k v=([],false)):=if_neg fun h=>h0 h.1
  rw[decide_eq_false h0]at hcon;clear h0;go_enter func170,ntmps170;go_wp2_with fail;refine hcon.mono ?_;rintro e w1 ⟨rfl,hb1⟩;have hB1:Below w.1.size w w1:=hb1;clear hb1;go_wp2;rw[HV.o];refine bodyPost_ret (v:=.tuple #[.slice none 0 0,.bool false]) (by simp[results,results170,go_sem]) rfl ?_;exact⟨⟨none,0,rfl,Kind.Fresh.nil _ _ _ _ _ _⟩,hB1⟩
theorem specMean_is(ao:Option Addr)(cap:Nat)(ts:List LNode)(k v:Int)(w:World)(hC:Roomy ts cap)(hz:DIn Ja w.1.size w ao ts) :
  Calls prog 143 #[.slice ao ts.length cap,.int .i64 k,.int .i64 v] w (AnsEB w (Xy (ts.map Zz) k v)):=by
 have hcon:=Up ao cap ts w hC hz;have HZ:=Zd hz;have hgl:(ts.map Zz).length=ts.length:=Zb ts;clear hz hC
 by_cases h0:Qa (ts.map Zz)=0
 ·obtain⟨hm,hbk,hor⟩:=Jw h0;have HED:=Zd (Nv (by omega) (hbk 4 (by omega)));have HOR:=Zd hor;have HGS:=Zd (good_sts (hbk 2 (by omega)));have h1:1≤ts.length:=by rw[Zb]at hm;omega
  have h10:ts.length≤10:=by rw[Zb]at hm;omega
  rw[h0]at hcon;have H0:=Zd h0;have HGL:=Zd hgl;clear h0 hm hbk hor hgl
  by_cases hk:0≤k∧k<(ts.length:Int)
  ·have HIN:Zi ((decide (0≤k) && decide (k≤(ts.length:Int)-1))=true):=by rw[Zi];simp;omega
   have HK:=Zd hk;clear hk
   cases hv:Ju v with
   |false =>
    have HV:Zi (Xy (ts.map Zz) k v=([],false)):=if_neg (by rw[hv];simp);have HVV:=Zd hv;go_enter func143,ntmps143;go_wp2_with fail;refine hcon.mono ?_;rintro e w1 ⟨rfl,hb1⟩;have hB1:Below w.1.size w w1:=hb1;clear hb1;go_wp2_with fail;refine(Zr k 0 ((ts.length:Int)-1) _ true HIN.o).mono ?_;rintro e w2 ⟨rfl,rfl⟩;dsimp only;go_wp2_with fail;refine(Vu v _ false HVV.o).mono ?_;rintro e w2 ⟨rfl,rfl⟩;dsimp only;go_wp2;rw[HV.o];refine bodyPost_ret (v:=.tuple #[.slice none 0 0,.bool false]) (by simp[results,results143,go_sem]) rfl ?_;exact⟨⟨none,0,rfl,Kind.Fresh.nil _ _ _ _ _ _⟩,hB1⟩
   |true =>
    have HVV:=Zd hv
    by_cases hw:100000<Ue (ts.map Zz)
    ·have HV:Zi (Xy (ts.map Zz) k v=([],false)):=if_neg (by omega);have hw':decide (100000<Ue (ts.map Zz))=true:=by simpa using hw
     go_enter func143,ntmps143;go_wp2_with fail;refine hcon.mono ?_;rintro e w1 ⟨rfl,hb1⟩;have hB1:Below w.1.size w w1:=hb1;clear hb1;go_wp2_with fail;refine(Zr k 0 ((ts.length:Int)-1) _ true HIN.o).mono ?_;rintro e w2 ⟨rfl,rfl⟩;dsimp only;go_wp2_with fail;refine(Vu v _ true HVV.o).mono ?_;rintro e w2 ⟨rfl,rfl⟩;dsimp only;go_wp2_with fail;refine(Gb ao cap ts w2 HED.o HOR.o (HZ.o.later Zf hB1)).mono ?_;rintro e w3 ⟨rfl,hb3⟩;have hB3:=hB1.trans (hb3.mono hB1.size);clear hb3;dsimp only;go_wp2;rw[HV.o];refine bodyPost_ret (v:=.tuple #[.slice none 0 0,.bool false]) (by simp[results,results143,go_sem]) rfl ?_;exact⟨⟨none,0,rfl,Kind.Fresh.nil _ _ _ _ _ _⟩,hB3⟩
    ·have HV:Zi (Xy (ts.map Zz) k v=Pr (Xl (ts.map Zz) k.toNat v)):=if_pos ⟨H0.o,HK.o.1,by rw[HGL.o];exact HK.o.2,hv,by omega⟩;have hw':decide (100000<Ue (ts.map Zz))=false:=by simpa using hw
     obtain⟨n,rfl⟩:∃n:Nat,k=(n:Int):=⟨k.toNat,by have:=HK.o;omega⟩;rw[Int.toNat_natCast]at HV;have hnl:n<ts.length:=by have:=HK.o;omega
     go_enter func143,ntmps143;go_wp2_with fail;refine hcon.mono ?_;rintro e w1 ⟨rfl,hb1⟩;have hB1:Below w.1.size w w1:=hb1;clear hb1;go_wp2_with fail;refine(Zr (n:Int) 0 ((ts.length:Int)-1) _ true HIN.o).mono ?_;rintro e w2 ⟨rfl,rfl⟩;dsimp only;go_wp2_with fail;refine(Vu v _ true HVV.o).mono ?_;rintro e w2 ⟨rfl,rfl⟩;dsimp only;go_wp2_with fail;refine(Gb ao cap ts w2 HED.o HOR.o (HZ.o.later Zf hB1)).mono ?_;rintro e w3 ⟨rfl,hb3⟩;have hB3:=hB1.trans (hb3.mono hB1.size);clear hb3;dsimp only;go_wp2_with fail;refine(l11Mean_is ao cap ts _ (Ka HOR.o) HED.o HGS.o n v w3 hnl HVV.o (HZ.o.later Zf hB3)).mono ?_;rintro e w4 ⟨go4,gc4,r,rfl,hno4,hF4,hT4,hl4,hb4⟩;have HF4:=Zd hF4.in;have hB4:=hB3.trans (hb4.mono hB3.size);have HT4:=Zd hT4;clear hF4 hb4 hT4;dsimp only
     by_cases h4:400<r.length
     ·have HVF:Zi (Xy (ts.map Zz) (n:Int) v=([],false)):=by
       rw[Zi,HV.o,Pr,if_pos]
       rcases HT4.o with h|⟨_,h⟩
       ·rw[List.nil_append]at h;rw[←h];exact h4
       ·simp at h;omega
      have h4':decide ((400:Int)<(r.length:Int))=true:=by simp;omega
      clear h4;go_wp2;rw[HVF.o];refine bodyPost_ret (v:=.tuple #[.slice none 0 0,.bool false]) (by simp[results,results143,go_sem]) rfl ?_;exact⟨⟨none,0,rfl,Kind.Fresh.nil _ _ _ _ _ _⟩,hB4⟩
     ·have HVF:Zi (Xy (ts.map Zz) (n:Int) v=(Yz r,true)):=by
       rcases HT4.o with h|⟨h,_⟩
       ·rw[List.nil_append]at h;rw[Zi,HV.o,Pr,←h,if_neg h4]
       ·omega
      have h4':decide ((400:Int)<(r.length:Int))=false:=by simp;omega
      clear h4;go_wp2_with fail;refine(l11Sort_any go4 gc4 r w4 (by omega) HF4.o hno4).mono ?_;rintro e w5 ⟨o5,c5,rfl,hF5,hb5⟩;have hB5:=hB4.trans (hb5.mono hB4.size);have HF5:=Zd hF5;clear hF5 hb5;dsimp only;go_wp2;rw[HVF.o];refine bodyPost_ret (v:=.tuple #[.slice o5 (Yz r).length c5,.bool true]) (by simp[results,results143,go_sem]) rfl ?_;exact⟨⟨o5,c5,rfl,HF5.o.wide hB4.size (Nat.le_refl _)⟩,hB5⟩
  ·have HV:Zi (Xy (ts.map Zz) k v=([],false)):=if_neg (by have:=HGL.o;omega);have HIN:Zi ((decide (0≤k) && decide (k≤(ts.length:Int)-1))=false):=by rw[Zi];simp;omega
   clear hk;go_enter func143,ntmps143;go_wp2_with fail;refine hcon.mono ?_;rintro e w1 ⟨rfl,hb1⟩;have hB1:Below w.1.size w w1:=hb1;clear hb1;go_wp2_with fail;refine(Zr k 0 ((ts.length:Int)-1) _ false HIN.o).mono ?_;rintro e w2 ⟨rfl,rfl⟩;dsimp only;go_wp2;rw[HV.o];refine bodyPost_ret (v:=.tuple #[.slice none 0 0,.bool false]) (by simp[results,results143,go_sem]) rfl ?_;exact⟨⟨none,0,rfl,Kind.Fresh.nil _ _ _ _ _ _⟩,hB1⟩
 ·have HV:Zi (Xy (ts.map Zz) k v=([],false)):=if_neg fun h=>h0 h.1
  have hc0:((Qa (ts.map Zz):Nat):Int)≠0:=by omega
  have hc1:(((Qa (ts.map Zz):Nat):Int)==0)=false:=by simp;omega
  generalize Qa (ts.map Zz)=cd at hcon hc0 hc1
  clear h0;go_enter func143,ntmps143;go_wp2_with fail;refine hcon.mono ?_;rintro e w1 ⟨rfl,hb1⟩;have hB1:Below w.1.size w w1:=hb1;clear hb1;go_wp2;rw[HV.o];refine bodyPost_ret (v:=.tuple #[.slice none 0 0,.bool false]) (by simp[results,results143,go_sem]) rfl ?_;exact⟨⟨none,0,rfl,Kind.Fresh.nil _ _ _ _ _ _⟩,hB1⟩
end Go.Proofs.YtdacedbfnlkghaaGreatDoor