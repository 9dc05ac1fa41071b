/- What each node of a graph must keep to: the program's tests. The five tests over a graph; the numbers of its nodes. Queues without one place: what serves every kind. A queue of ints: its iterator, without one place. The order of a graph: the program. No conditions but those written. -/
import Derived.Test.YtdacedbfnlkghaaGreatDoorUXrQt
import Derived.RangeFuncNested
import Derived.RangeFuncBound
import Derived.RangeFuncCalls
import Derived.RangeFuncLeaves
import Derived.RangeFuncBox
import Derived.Shelf.RegionOpen
import Derived.OwnWalkIn
import Derived.TacticsInMore
import Derived.LoopNIn
import Derived.LoopIn
namespace Go.Proofs.YtdacedbfnlkghaaGreatDoor
set_option maxHeartbeats 4000000
set_option maxRecDepth 100000
open Go.RowKit Go.Proofs.Tryz
def Ls(a b:ByteArray):Bool:=a.toList==b.toList
def FitN(ts:List LNode):Prop:=∀a∈ts,a.1.size≤1048576∧a.2.2.2.2.2.2.2.length≤1048576
theorem Tryz.enters84:∀args w,(callFunc 254 args).run prog w=.ok (.enter 254 args) w:=enters_of func254 (by kernel_rfl) rfl
theorem Tryz.enters85:∀args w,(callFunc 255 args).run prog w=.ok (.enter 255 args) w:=enters_of func255 (by kernel_rfl) rfl
theorem hasName1_is(x:LNode)(p:Nat)(nm:ByteArray)(w:World)(hp:p<w.1.size)(hc:w.cell? ⟨p,0,none⟩=some (.string nm)) :
  Calls prog 254 #[nodeV x,.pointer (some ⟨p,0,none⟩)] w fun e w'=>e=.returned (.bool (Ls x.1 nm))∧Below w.1.size w w':=by
 obtain⟨n2,kd,sa,sb,cp,⟨nxo,nxc,nx⟩⟩:=x
 unfold nodeV
 dsimp only;go_enter func254,ntmps254;go_wp2;go_ret;exact⟨rfl,Zk _ _⟩
theorem hasName_is(ao:Option Addr)(cap:Nat)(ts:List LNode)(nm:ByteArray)(w:World)(hl:ts.length≤1048576)(hz:Pf.In w.1.size w ao ts) :
  Calls prog 227 #[.slice ao ts.length cap,.string nm] w fun e w'=>e=.returned (.bool (ts.any fun x=>Ls x.1 nm))∧Below w.1.size w w':=by
 obtain⟨V,hV⟩:=nmd (w.alloc (.cells #[.string nm] 9));have hb:Below w.1.size w V:=by rw[hV];exact Zk _ _
 have hX:Bx V w.1.size [.string nm]:=by rw[hV];exact Bx.new [.string nm] _ rfl
 have hcon:=Yf 254 #[.pointer (some ⟨w.1.size,0,none⟩)] Tryz.enters84 ao cap ts (fun x=>Ls x.1 nm) V hl (hz.later hb) (fun x W _ hW=>hasName1_is x w.1.size nm W (by have:=hW.size;have:=hX.size;omega) ((hX.later hW).c 0 rfl));have HV:=Zd hV;have HB:=Zd hb;clear hV hX hz hb;go_enter func227,ntmps227;go_wp2_with fail;rw[←HV.o];refine hcon.mono ?_;rintro e w1 ⟨rfl,hb1⟩;have hB1:Below w.1.size w w1:=HB.o.trans (hb1.mono HB.o.size);clear hb1;go_wp2;go_ret;exact⟨rfl,hB1⟩
def Mv(m x:Int):Bool:=decide (x<0)||decide (m≤x)
def Vm(nx:List Int)(m:Int):Bool:=decide ((nx.length:Int)≤m) && (!nx.any (Mv m) && Dm nx)
theorem goodNext1_is(x m:Int)(p:Nat)(w:World)(hc:w.cell? ⟨p,0,none⟩=some (.int .i64 m)) :
  Calls prog 255 #[.int .i64 x,.pointer (some ⟨p,0,none⟩)] w fun e w'=>e=.returned (.bool (Mv m x))∧Below w.1.size w w':=by
 by_cases h:x<0
 ·have e:Mv m x=true:=by simp[Mv,h]
  rw[e];go_enter func255,ntmps255;go_wp2;go_ret;exact⟨rfl,Below.refl _ _⟩
 ·have e:Mv m x=decide (m≤x):=by simp[Mv,h]
  rw[e];go_enter func255,ntmps255;go_wp2;go_ret;exact⟨rfl,Below.refl _ _⟩
theorem goodNext_is(ao:Option Addr)(cap:Nat)(nx:List Int)(m:Int)(w:World)(hl:nx.length≤1048576)(hcap:nx.length≤cap)(hz:kI.In w.1.size w ao nx) :
  Calls prog 231 #[.slice ao nx.length cap,.int .i64 m] w fun e w'=>e=.returned (.bool (Vm nx m))∧Below w.1.size w w':=by
 obtain⟨V,hV⟩:=nmd (w.alloc (.cells #[.int .i64 m] 3));have hb:Below w.1.size w V:=by rw[hV];exact Zk _ _
 have hX:Bx V w.1.size [.int .i64 m]:=by rw[hV];exact Bx.new [.int .i64 m] _ rfl
 have hcon:=Kg 255 #[.pointer (some ⟨w.1.size,0,none⟩)] Tryz.enters85 ao cap nx (Mv m) V hl (hz.later hb) (fun x W _ hW=>goodNext1_is x m w.1.size W ((hX.later hW).c 0 rfl));have c0:=hX.c 0 rfl;have hs:=hX.size;have HV:=Zd hV;have HB:=Zd hb;have HZ:=Zd hz;clear hV hX hz hb
 by_cases h1:(nx.length:Int)≤m
 ·cases h2:nx.any (Mv m)
  ·rw[h2]at hcon;have e:Vm nx m=Dm nx:=by simp[Vm,h1,h2]
   rw[e];clear e h2;go_enter func231,ntmps231;go_wp2_with fail;rw[←HV.o];refine hcon.mono ?_;rintro e w1 ⟨rfl,hb1⟩;have hB1:Below w.1.size w w1:=HB.o.trans (hb1.mono HB.o.size);clear hb1;go_wp2_with fail;refine(noneTwice_is w1.1.size ao cap nx w1 (Dm nx) hl hcap (HZ.o.later hB1) rfl).mono ?_;rintro e w2 ⟨rfl,rfl⟩;go_wp2;go_ret;exact⟨rfl,hB1⟩
  ·rw[h2]at hcon;have e:Vm nx m=false:=by simp[Vm,h2]
   rw[e];clear e h2;go_enter func231,ntmps231;go_wp2_with fail;rw[←HV.o];refine hcon.mono ?_;rintro e w1 ⟨rfl,hb1⟩;have hB1:Below w.1.size w w1:=HB.o.trans (hb1.mono HB.o.size);clear hb1;go_wp2;go_ret;exact⟨rfl,hB1⟩
 ·have e:Vm nx m=false:=by simp[Vm,h1]
  rw[e];clear hcon e;go_enter func231,ntmps231;go_wp2;go_ret;exact⟨rfl,by rw[←HV.o];exact HB.o⟩
structure GrIn(W:World)(p:Nat)(ao:Option Addr)(cap:Nat)(ts:List LNode):Prop where
 box:Bx W p [.slice ao ts.length cap]
 rows:DIn Ja W.1.size W ao ts
theorem GrIn.later{W W':World}{p:Nat}{ao:Option Addr}{cap:Nat}{ts:List LNode}(h:GrIn W p ao cap ts)(hb:Below W.1.size W W'):GrIn W' p ao cap ts:=⟨h.box.later hb,h.rows.later Zf hb⟩
def CapN(ts:List LNode):Prop:=∀a∈ts,a.2.2.2.2.2.2.2.length≤a.2.2.2.2.2.2.1
theorem Jz{ts:List LNode}{k:Nat}(hk:k<ts.length):el (ts.map Zz) k=Zz (el ts k):=by simp[el,hk]
theorem rule1_is(p:Nat)(ao:Option Addr)(cap:Nat)(ts:List LNode)(k:Nat)(w:World)(hk:k<ts.length)(_hl:ts.length≤1048576)(hF:FitN ts)(hG:GrIn w p ao cap ts) :
  Calls prog 225 #[.int .i64 (k:Int),.pointer (some ⟨p,0,none⟩)] w fun e w'=>e=.returned (.bool (!Yv (el (ts.map Zz) k).1))∧Below w.1.size w w':=by
 have HG:=Zd hG;have hki:(k:Int)<(ts.length:Int):=by omega
 clear hG;obtain⟨b,off,rfl,hb,hc⟩:=Qw HG.o.rows.1 hk;have d1:=(hc k hk).1;have d2:=(hc k hk).2.1;have d3:=(hc k hk).2.2.1;have d4:=(hc k hk).2.2.2.1;have d5:=(hc k hk).2.2.2.2.1;have d6:=(hc k hk).2.2.2.2.2;have hfk:=hF _ (Zl hk);have hev:=Jz hk;have hin:=HG.o.rows.2 k hk;obtain⟨⟨nm,kd,sa,sb,cp,⟨nxo,nxc,nx⟩⟩,ex⟩:∃v,v=el ts k:=⟨_,rfl⟩;rw[←ex]at d1 d2 d3 d4 d5 d6 hfk hev hin;have HE:Zi (el (ts.map Zz) k=(nm,kd,sa,sb,cp,nx)):=hev;have c0:=HG.o.box.c 0 rfl;clear hc hev;dsimp only at d1 d2 d3 d4 d5 d6 hfk;have E1:Zi ((!Yv (el (ts.map Zz) k).1) = !Yv nm):=by rw[Zi,HE.o]
 go_enter func225,ntmps225;go_wp2_with fail;refine(isName_is nm w (by omega)).mono ?_;rintro e w1 ⟨rfl,hb1⟩;go_wp2;go_ret;exact⟨Zp E1.o.symm,hb1⟩
theorem rule3_is(p:Nat)(ao:Option Addr)(cap:Nat)(ts:List LNode)(k:Nat)(w:World)(hk:k<ts.length)(_hl:ts.length≤1048576)(hF:FitN ts)(hG:GrIn w p ao cap ts) :
  Calls prog 228 #[.int .i64 (k:Int),.pointer (some ⟨p,0,none⟩)] w fun e w'=>e=.returned (.bool (!Zg (el (ts.map Zz) k).2.1 (el (ts.map Zz) k).2.2.1 (el (ts.map Zz) k).2.2.2.1))∧Below w.1.size w w':=by
 have HG:=Zd hG;have hki:(k:Int)<(ts.length:Int):=by omega
 clear hG;obtain⟨b,off,rfl,hb,hc⟩:=Qw HG.o.rows.1 hk;have d1:=(hc k hk).1;have d2:=(hc k hk).2.1;have d3:=(hc k hk).2.2.1;have d4:=(hc k hk).2.2.2.1;have d5:=(hc k hk).2.2.2.2.1;have d6:=(hc k hk).2.2.2.2.2;have hfk:=hF _ (Zl hk);have hev:=Jz hk;have hin:=HG.o.rows.2 k hk;obtain⟨⟨nm,kd,sa,sb,cp,⟨nxo,nxc,nx⟩⟩,ex⟩:∃v,v=el ts k:=⟨_,rfl⟩;rw[←ex]at d1 d2 d3 d4 d5 d6 hfk hev hin;have HE:Zi (el (ts.map Zz) k=(nm,kd,sa,sb,cp,nx)):=hev;have c0:=HG.o.box.c 0 rfl;clear hc hev;dsimp only at d1 d2 d3 d4 d5 d6 hfk;have E1:Zi ((!Zg (el (ts.map Zz) k).2.1 (el (ts.map Zz) k).2.2.1 (el (ts.map Zz) k).2.2.2.1) = !Zg kd sa sb):=by rw[Zi,HE.o]
 go_enter func228,ntmps228;go_wp2_with fail;refine(Bq kd sa sb w (Zg kd sa sb) rfl).mono ?_;rintro e w1 ⟨rfl,hb1⟩;go_wp2;go_ret;exact⟨Zp E1.o.symm,hb1⟩
theorem rule4_is(p:Nat)(ao:Option Addr)(cap:Nat)(ts:List LNode)(k:Nat)(w:World)(hk:k<ts.length)(_hl:ts.length≤1048576)(hF:FitN ts)(hG:GrIn w p ao cap ts) :
  Calls prog 229 #[.int .i64 (k:Int),.pointer (some ⟨p,0,none⟩)] w fun e w'=>e=.returned (.bool (decide ((el (ts.map Zz) k).2.2.2.2.1<3)||decide (8<(el (ts.map Zz) k).2.2.2.2.1)))∧Below w.1.size w w':=by
 have HG:=Zd hG;have hki:(k:Int)<(ts.length:Int):=by omega
 clear hG;obtain⟨b,off,rfl,hb,hc⟩:=Qw HG.o.rows.1 hk;have d1:=(hc k hk).1;have d2:=(hc k hk).2.1;have d3:=(hc k hk).2.2.1;have d4:=(hc k hk).2.2.2.1;have d5:=(hc k hk).2.2.2.2.1;have d6:=(hc k hk).2.2.2.2.2;have hfk:=hF _ (Zl hk);have hev:=Jz hk;have hin:=HG.o.rows.2 k hk;obtain⟨⟨nm,kd,sa,sb,cp,⟨nxo,nxc,nx⟩⟩,ex⟩:∃v,v=el ts k:=⟨_,rfl⟩;rw[←ex]at d1 d2 d3 d4 d5 d6 hfk hev hin;have HE:Zi (el (ts.map Zz) k=(nm,kd,sa,sb,cp,nx)):=hev;have c0:=HG.o.box.c 0 rfl;clear hc hev;dsimp only at d1 d2 d3 d4 d5 d6 hfk;have E1:Zi ((decide ((el (ts.map Zz) k).2.2.2.2.1<3)||decide (8<(el (ts.map Zz) k).2.2.2.2.1))=(decide (cp<3)||decide (8<cp))):=by rw[Zi,HE.o]
 by_cases h:cp<3
 ·go_enter func229,ntmps229;go_wp2;go_ret;exact⟨Zp (by rw[E1.o];simp[h]),Below.refl _ _⟩
 ·go_enter func229,ntmps229;go_wp2;go_ret;exact⟨Zp (by rw[E1.o,decide_eq_false (p:=cp<3) (by omega),Bool.false_or]),Below.refl _ _⟩
theorem rule2_is(p:Nat)(ao:Option Addr)(cap:Nat)(ts:List LNode)(k:Nat)(w:World)(hk:k<ts.length)(_hl:ts.length≤1048576)(hF:FitN ts)(hG:GrIn w p ao cap ts)(hcap:ts.length≤cap) :
  Calls prog 226 #[.int .i64 (k:Int),.pointer (some ⟨p,0,none⟩)] w fun e w'=>e=.returned (.bool (((ts.map Zz).take k).any fun y=>Ls y.1 (el (ts.map Zz) k).1))∧Below w.1.size w w':=by
 have HG:=Zd hG;have hki:(k:Int)<(ts.length:Int):=by omega
 clear hG;obtain⟨b,off,rfl,hb,hc⟩:=Qw HG.o.rows.1 hk;have d1:=(hc k hk).1;have d2:=(hc k hk).2.1;have d3:=(hc k hk).2.2.1;have d4:=(hc k hk).2.2.2.1;have d5:=(hc k hk).2.2.2.2.1;have d6:=(hc k hk).2.2.2.2.2;have hfk:=hF _ (Zl hk);have hev:=Jz hk;have hin:=HG.o.rows.2 k hk;obtain⟨⟨nm,kd,sa,sb,cp,⟨nxo,nxc,nx⟩⟩,ex⟩:∃v,v=el ts k:=⟨_,rfl⟩;rw[←ex]at d1 d2 d3 d4 d5 d6 hfk hev hin;have HE:Zi (el (ts.map Zz) k=(nm,kd,sa,sb,cp,nx)):=hev;have c0:=HG.o.box.c 0 rfl;clear hc hev;dsimp only at d1 d2 d3 d4 d5 d6 hfk;have E1:Zi (((ts.map Zz).take k).any (fun y=>Ls y.1 (el (ts.map Zz) k).1)=(ts.take k).any (fun y=>Ls y.1 nm)):=by
  rw[Zi,HE.o,←List.map_take,List.any_map];rfl
 have hkc:(k:Int)≤(cap:Int):=by omega
 have HN:=Zd (HG.o.rows.1.take k);have hlk:(ts.take k).length=k:=by simp;omega
 have hcon:=hasName_is (some ⟨b,off,none⟩) cap (ts.take k) nm;rw[hlk]at hcon;have mixed:prog.follows .mixedOrders=true:=by kernel_rfl
 have hNE:=Vz w;have q1:=Later.cell d1 hb;have q0:=Later.cell c0 HG.o.box.size
 clear d1 c0;go_enter func226,ntmps226;go_wp2_with fail;refine Qo w (by kernel_rfl) (by kernel_rfl) (Below.refl _ _) ?_
 repeat(go_big_quiet_step (first|(go_at_call 227;exact Calls.later (hcon _ (by omega) (by exact(HN.o.later (Later.h _)))))))
 refine wpQuiet_nil ?_;rintro w4 ⟨⟨w5,hb4⟩,hw5⟩;obtain rfl:w4=w5:=hw5;clear q1 q0 hNE;go_wp2;go_ret;exact⟨Zp E1.o.symm,hb4⟩
theorem rule5_is(p:Nat)(ao:Option Addr)(cap:Nat)(ts:List LNode)(k:Nat)(w:World)(hk:k<ts.length)(_hl:ts.length≤1048576)(hF:FitN ts)(hG:GrIn w p ao cap ts)(hC:CapN ts) :
  Calls prog 230 #[.int .i64 (k:Int),.pointer (some ⟨p,0,none⟩)] w fun e w'=>e=.returned (.bool (!Vm (el (ts.map Zz) k).2.2.2.2.2 (ts.map Zz).length))∧Below w.1.size w w':=by
 have HG:=Zd hG;have hki:(k:Int)<(ts.length:Int):=by omega
 clear hG;obtain⟨b,off,rfl,hb,hc⟩:=Qw HG.o.rows.1 hk;have d1:=(hc k hk).1;have d2:=(hc k hk).2.1;have d3:=(hc k hk).2.2.1;have d4:=(hc k hk).2.2.2.1;have d5:=(hc k hk).2.2.2.2.1;have d6:=(hc k hk).2.2.2.2.2;have hfk:=hF _ (Zl hk);have hev:=Jz hk;have hin:=HG.o.rows.2 k hk;obtain⟨⟨nm,kd,sa,sb,cp,⟨nxo,nxc,nx⟩⟩,ex⟩:∃v,v=el ts k:=⟨_,rfl⟩;rw[←ex]at d1 d2 d3 d4 d5 d6 hfk hev hin;have HE:Zi (el (ts.map Zz) k=(nm,kd,sa,sb,cp,nx)):=hev;have c0:=HG.o.box.c 0 rfl;clear hc hev;dsimp only at d1 d2 d3 d4 d5 d6 hfk;have E1:Zi ((!Vm (el (ts.map Zz) k).2.2.2.2.2 (ts.map Zz).length) = !Vm nx ts.length):=by rw[Zi,HE.o,List.length_map]
 have HI:Zi (kI.In w.1.size w nxo nx):=hin;have hcx:=hC _ (Zl hk);rw[←ex]at hcx;dsimp only at hcx;have hNE:=Vz w;have q6:=Later.cell d6 hb;have q0:=Later.cell c0 HG.o.box.size
 clear d6 c0 d1 d2 d3 d4 d5;go_enter func230,ntmps230;go_wp2_with fail;refine Qo w (by kernel_rfl) (by kernel_rfl) (Below.refl _ _) ?_
 repeat(go_big_quiet_step (first|(go_at_call 231;exact Calls.later (goodNext_is nxo nxc nx (ts.length:Int) _ hfk.2 hcx (by exact(HI.o.later (Later.h _)))))))
 refine wpQuiet_nil ?_;rintro w4 ⟨⟨w5,hb4⟩,hw5⟩;obtain rfl:w4=w5:=hw5;clear q6 q0 hNE;go_wp2;go_ret;exact⟨Zp E1.o.symm,hb4⟩
section
open Go.RowKit Go.Shelf
def SameB(b:Nat)(W W':World):Prop:=W'.heap[b]? = W.heap[b]?
theorem SameB.cell{b:Nat}{W W':World}(h:SameB b W W')(o:Nat):W'.cell? ⟨b,o,none⟩=W.cell? ⟨b,o,none⟩:=World.cell?_of_block (w:=W) (a:=⟨b,o,none⟩) h
theorem SameB.trans{b:Nat}{A B C:World}(h:SameB b A B)(k:SameB b B C):SameB b A C:=Eq.trans k h
theorem Us{b:Nat}{w:World}(hb:b<w.1.size)(W:World)(l:Nat)(o o':Obj)(hl:w.1.size≤l)(_:W.heap[l]? = some o)(_:o.isCells=false)(_:o.isWalk=false):SameB b W (W.putObj l o') :=
 World.putObj_heap_other (by omega)
theorem Ur{g:Nat}{W:World}{a:Addr}{u:Value}(h:g≠a.block):SameB g W (W.setCell a u):=Below.heap_setCell W a u g h
section
variable {α:Type} [Inhabited α]
def Yd(ts:List α)(pl:Int)(pre:List Nat):List α:=(pre.filter (fun k:Nat=>(k:Int) != pl)).map (el ts)
theorem keepE_snoc(ts:List α)(pl:Int)(pre:List Nat)(x:Nat):Yd ts pl (pre++[x])=if(x:Int)=pl then Yd ts pl pre else Yd ts pl pre++[el ts x]:=by
 rw[Yd,List.filter_append]
 by_cases e:(x:Int)=pl <;> simp[Yd,e]
theorem keepE_len(ts:List α)(pl:Int)(pre:List Nat):(Yd ts pl pre).length≤pre.length:=by
 rw[Yd,List.length_map];exact List.length_filter_le _ _
theorem keepE_range(ts:List α)(k:Nat)(hk:k<ts.length):Yd ts (k:Int) (List.range ts.length)=ts.take k++ts.drop (k+1):=by
 obtain⟨m,hm⟩:∃m,ts.length=k+(1+m):=⟨ts.length-k-1,by omega⟩;have e1:(List.range k).filter (fun j:Nat=>(j:Int) != (k:Int))=List.range k:=by
  rw[List.filter_eq_self];intro j hj;have:=List.mem_range.1 hj;simp;omega
 have e2:((List.range m).map (fun i=>k+(1+i))).filter (fun j:Nat=>(j:Int) != (k:Int))=(List.range m).map (fun i=>k+(1+i)):=by
  rw[List.filter_eq_self];intro j hj
  obtain⟨i,_,rfl⟩:=List.mem_map.1 hj
  simp;omega
 rw[hm,List.range_add,List.range_add,Yd];simp only[List.map_append,List.map_map,List.filter_append,Function.comp_def];rw[e1,e2];have e3:(List.map (fun x=>k+x) (List.range 1)).filter (fun j:Nat=>(j:Int) != (k:Int))=[]:=by simp[List.range_succ]
 rw[e3,List.map_nil,List.nil_append]
 congr 1
 ·apply List.ext_getElem?
  intro i
  by_cases hi:i<k
  ·have:i<ts.length:=by omega
   simp[hi,this,el]
  ·rw[List.getElem?_eq_none (by simp;omega),List.getElem?_eq_none (by simp;omega)]
 ·apply List.ext_getElem?
  intro i
  by_cases hi:i<m
  ·have h1:k+(1+i)<ts.length:=by omega
   have h2:k+1+i<ts.length:=by omega
   simp only[List.map_map,List.getElem?_map,List.getElem?_drop,List.getElem?_range hi,Option.map_some,Function.comp_def,el];rw[show k+1+i=k+(1+i)from by omega]
   simp[h1]
  ·rw[List.getElem?_eq_none (by simp;omega),List.getElem?_eq_none (by simp;omega)]
end
theorem owns_kept{w w':World}{base:Nat}{e:TypeId}{size:Nat}{v:Value}{n:Nat}{xs:List Value}{row:Option Nat}(h:w.ownsRow base e size v n xs)(hg:w.grownBy w' row)(hr:∀r,row=some r→∃o:Obj,w.heap[r]? = some o∧o.isCells=false):w'.ownsRow base e size v n xs:=by
 obtain⟨h1,h2⟩:=h;refine⟨h1,?_⟩
 rcases h2 with h2|⟨g,cap,cur,hv,hb,hh,r⟩
 ·exact Or.inl h2
 ·refine Or.inr ⟨g,cap,cur,hv,hb,?_,r⟩;rw[hg.block g (Array.getElem?_eq_some_iff.1 hh).1 (fun e=>?_)]
  ·exact hh
  ·obtain⟨o,ho,hc⟩:=hr g e.symm;rw[hh]at ho;cases ho;cases hc
theorem Kind.Fresh.kept{α:Type}{K:Kind α}{lo hi:Nat}{W W':World}{to:Option Addr}{tc:Nat}{ts:List α}{row:Option Nat}(h:K.Fresh lo hi W to tc ts)(hg:W.grownBy W' row)(hr:∀r,row=some r→∃o:Obj,W.heap[r]? = some o∧o.isCells=false):K.Fresh lo hi W' to tc ts:=by
 rcases h with h|⟨g,e,hl,ho⟩
 ·exact .inl h
 ·exact .inr ⟨g,e,hl,owns_kept ho hg hr⟩
theorem own_cells{lo ty sz:Nat}{W:World}{v:Value}{n:Nat}{xs:List Value}(h:W.ownsRow lo ty sz v n xs):∀(j:Nat)(o:Obj),v.ownBlock=some j→W.heap[j]? = some o→o.isCells=true:=by
 rcases h.2 with⟨e,_⟩|⟨g,cap,cur,e,hb,hh,_⟩
 ·subst e;exact fun j o h=>by simp[Value.ownBlock]at h
 ·subst e;refine fun j o h ho=>?_
  simp[Value.ownBlock]at h
  subst h;rw[hh]at ho;cases ho;rfl
end
section
open Go.RowKit Go.Shelf
attribute [local go_sem] Oper.semAt_some
def tvI(t:Int):Value:=.int .i64 t
theorem all1I_in(F:Fence)(n:Nat)(hAll:F.fn 272)(hro:F.round=none)(hn:1≤n)(l Bs b off len cap:Nat)(ts:List (Int))(hreach:len≤1048576)(J Jx:List Nat→World→Prop)(W:World)(_:AbidesFrom W.1.size J)
  (hY:∀(pre:List Nat)(x:Nat)(W:World),J pre W→pre.length<len→YieldAt F (n-1) prog l #[.int .i64 (x:Int),tvI (el ts x)] W fun e W' =>
   (e=.returned (.bool true)∧J (pre++[x]) W'∧SameB b W W')∨(e=.returned (.bool false)∧Jx (pre++[x]) W'))
  (hBs:W.cell? ⟨Bs,0,none⟩=some (.slice (some ⟨b,off,none⟩) len cap)) (hc:∀j,j<len→W.cell? ⟨b,off+j,none⟩=some (.int .i64 (el ts j))) (h0:J [] W) :
  CallsIn F n prog 272 #[.func (.yield l) #[] #[],.pointer (some ⟨Bs,0,none⟩)] W fun e W'=>(∃v,e=.returned v)∧
   ((∃ys,ys=List.range len∧J ys W')∨(∃pre,(∃k,k≤len∧pre=List.range k)∧Jx pre W')):=by
 refine callsIn_of_wp func272 rfl hAll ?_ hro;simp only[ntmps272,List.size_toArray,List.length_cons,List.length_nil,Nat.reduceAdd,Nat.reduceSub,Array.replicate_succ,Array.replicate_zero,List.push_toArray,List.append_toArray,List.nil_append,List.cons_append]
 gi_wp2
 gi_loopw [8] (fun i wr=>∃k:Nat,k≤len∧i=.int .i64 k∧J (List.range k) wr∧Zi (SameB b W wr))
  (fun i _=>len-(intOf i).toNat)
 case atStart=>exact⟨0,Nat.zero_le _,rfl,h0,rfl⟩
 case round =>
  obtain⟨k,hk,rfl,hJs,hnx⟩:=hrel
  by_cases hlt:k<len
  ·have c1:=hc k hlt;have d1:=(hnx.o.cell (off+k)).trans c1;obtain⟨x1,e1⟩:=nmd ((el ts k));have hJa:=hJs;obtain⟨fn,tmps,assign,body,hy,hR⟩:=hY _ k _ hJa (by rw[List.length_range];exact hlt);simp only[tvI,←e1]at hy;rw[←e1]at d1;clear c1 hc e1
   gi_wp2
   refine hR.mono ?_;rintro e W3 (⟨rfl,hJ3,hk3⟩|⟨rfl,hJx3⟩)
   ·have hk4:SameB b wr W3:=hk3
    gi_wp2
    go_roundw
    case rel=>exact⟨k+1,by omega,by simp,by rw[List.range_succ];exact hJ3,hnx.o.trans hk4⟩
    case measure=>simp[intOf];omega
   ·gi_wp2
    refine bodyPost_ret (results_none rfl _ _ _) rfl ?_;exact⟨⟨_,rfl⟩,.inr ⟨_,⟨k+1,by omega,List.range_succ.symm⟩,hJx3⟩⟩
  ·obtain rfl:k=len:=by omega
   gi_wp2
   go_end0
   exact⟨⟨_,rfl⟩,.inl ⟨_,rfl,hJs⟩⟩
theorem all1I_nil_in(F:Fence)(n:Nat)(hAll:F.fn 272)(hro:F.round=none)(l Bs:Nat)(ao:Option Addr)(cap:Nat)(J:List Nat→World→Prop)(W:World)(hBs:W.cell? ⟨Bs,0,none⟩=some (.slice ao 0 cap))(h0:J [] W) :
  CallsIn F n prog 272 #[.func (.yield l) #[] #[],.pointer (some ⟨Bs,0,none⟩)] W fun e W'=>(∃v,e=.returned v)∧J [] W':=by
 refine callsIn_of_wp func272 rfl hAll ?_ hro;simp only[ntmps272,List.size_toArray,List.length_cons,List.length_nil,Nat.reduceAdd,Nat.reduceSub,Array.replicate_succ,Array.replicate_zero,List.push_toArray,List.append_toArray,List.nil_append,List.cons_append]
 gi_wp2
 gi_loopw [8] (fun i wr=>i=.int .i64 0∧J [] wr) (fun _ _=>0)
 case atStart=>exact⟨rfl,h0⟩
 case round =>
  obtain⟨rfl,hJs⟩:=hrel
  gi_wp2
  go_end0
  exact⟨⟨_,rfl⟩,hJs⟩
theorem allI_stops(F:Fence)(n:Nat)(hAll:F.fn 272)(hro:F.round=none)(hn:1≤n)(Bs b:Nat)(ao:Option Addr)(cap:Nat)(ts:List (Int))(hreach:ts.length≤1048576)(w:World)(hBs:Bs<w.1.size)
  (hc:w.cell? ⟨Bs,0,none⟩=some (.slice ao ts.length cap)) (hI:ts=[]∨∃off,ao=some ⟨b,off,none⟩∧b<w.1.size∧∀j,j<ts.length→w.cell? ⟨b,off+j,none⟩=some (.int .i64 (el ts j))) :
  SeqStopsK F n prog 272 #[.pointer (some ⟨Bs,0,none⟩)] (fun x:Nat => #[Value.int .i64 (x:Int),tvI (el ts x)]) (SameB b) (fun ys=>ys=List.range ts.length)
   (fun pre=>∃k,k≤ts.length∧pre=List.range k) ts.length w:=fun l J Jx W hW hJ _ hY h0=>by
 have hc':=(hW.cell (p:=⟨Bs,0,none⟩) hBs).trans hc
 rcases hI with rfl|⟨off,rfl,hb,hcs⟩
 ·exact(all1I_nil_in F n hAll hro l Bs ao cap J W hc' h0).mono fun e W' ⟨he,hj⟩=>⟨he,.inl ⟨_,rfl,hj⟩⟩
 ·exact all1I_in F n hAll hro hn l Bs b off ts.length cap ts hreach J Jx W hJ hY hc' (fun j hj=>(hW.cell (p:=⟨b,off+j,none⟩) hb).trans (hcs j hj)) h0
theorem allI_any(v:Value)(hv:∃a n c,v=.slice a n c)(w:World) :
  Calls prog 258 #[.agg #[v]] w fun e w'=>e=.returned (.func (.func 272) #[] #[.pointer (some ⟨w.1.size,0,none⟩)])∧w'=w.alloc (.cells #[v] 268):=by
 obtain⟨a,n,c,rfl⟩:=hv;go_enter func258,ntmps258;go_wp2;go_ret;exact⟨rfl,rfl⟩
def DInvI(B:Nat)(ts:List (Int))(pl:Int)(g:Nat)(pre:List Nat)(W:World):Prop :=
 W.cell? ⟨B+1,0,none⟩=some (.int .i64 pl)∧(W.cell? ⟨B+1+1,0,none⟩=some (.slice none 0 0)∧W.frozen? ⟨B+1+1,0,none⟩=false)∧(∃v,W.cell? ⟨B+1+1+1,0,none⟩=some v∧kI.Own (B+1+1+1+1) W v (Yd ts pl pre))∧W.frozen? ⟨B+1+1+1,0,none⟩=false∧g<W.1.size
theorem DInvI.kept{B:Nat}{ts:List (Int)}{pl:Int}{g:Nat}{pre:List Nat}{W W':World}{row:Option Nat}(h:DInvI B ts pl g pre W)(hg:W.grownBy W' row)(hr:∀r,row=some r→∃o:Obj,W.heap[r]? = some o∧o.isCells=false):DInvI B ts pl g pre W':=by
 obtain⟨h2,⟨h3,h4⟩,⟨v,h5,h6⟩,h7,h8⟩:=h;exact⟨cell_kept h2 hg hr,⟨cell_kept h3 hg hr,(frozen_kept h3 hg hr).trans h4⟩,⟨v,cell_kept h5 hg hr,owns_kept h6 hg hr⟩,(frozen_kept h5 hg hr).trans h7,Nat.lt_of_lt_of_le h8 hg.size⟩
theorem withoutI_any(ao:Option Addr)(cap:Nat)(ts:List (Int))(pl:Int)(w:World)(hm:ts.length≤1048576)(hq:kI.In w.1.size w ao ts)(R:List (Int))(hR:R=Yd ts pl (List.range ts.length)) :
  Calls prog 235 #[.agg #[.slice ao ts.length cap],.int .i64 pl] w fun e w'=>(∃go qc,e=.returned (.agg #[.slice go R.length qc])∧kI.Fresh w.1.size w'.1.size w' go qc R)∧Below w.1.size w w':=by
 have HR:Zi (R=Yd ts pl (List.range ts.length)):=hR;clear hR;refine(callsIn_wide (n:=4)).1 ?_;have hro:Fence.wide.round=none:=rfl;refine callsIn_of_wp_marks func235 rfl trivial ?_ hro;simp only[ntmps235,List.size_toArray,List.length_cons,List.length_nil,Nat.reduceAdd,Nat.reduceSub,Array.replicate_succ,Array.replicate_zero,List.push_toArray,List.append_toArray,List.nil_append,List.cons_append]
 gi_wp2_with fail
 refine⟨trivial,?_⟩;refine(callsIn_wide.2 (allI_any _ ⟨_,_,_,rfl⟩ _)).mono ?_;rintro e w2 ⟨rfl,rfl⟩
 gi_wp2_with fail
 obtain⟨g,hgs,hg⟩:∃g,g≤w.1.size∧(ts=[]∨∃off,ao=some ⟨g,off,none⟩∧g<w.1.size∧∀j,j<ts.length→w.cell? ⟨g,off+j,none⟩=some (.int .i64 (el ts j))):=by
  rcases Nat.eq_zero_or_pos ts.length with h|h
  ·exact⟨0,Nat.zero_le _,.inl (List.length_eq_zero_iff.1 h)⟩
  ·obtain⟨b,off,e,hb,hc⟩:=Zo hq h;exact⟨b,Nat.le_of_lt hb,.inr ⟨off,e,hb,hc⟩⟩
 obtain⟨W0,hW0⟩:=nmd (((((w.alloc (Obj.cells #[Value.slice ao ts.length cap] 268)).alloc (Obj.cells #[Value.int IntKind.i64 pl] 3)).alloc (Obj.cells #[Value.slice none 0 0] 268)).alloc (Obj.cells #[Value.slice none 0 0] 25)).alloc (Obj.cells #[Value.slice ao ts.length cap] 268));rw[←hW0];have hBW:Below w.1.size w W0:=by rw[hW0];exact(((below3 w _ _ _).alloc (by simp;omega) _).alloc (by simp;omega) _)
 have hsW:W0.1.size=w.1.size+1+1+1+1+1:=by rw[hW0];simp
 have cW:W0.cell? ⟨w.1.size+1+1+1+1,0,none⟩=some (.slice ao ts.length cap):=by rw[hW0];simp[go_sem]
 have b0:W0.cell? ⟨w.1.size+1,0,none⟩=some (.int .i64 pl):=by rw[hW0];simp[go_sem]
 have r0:W0.cell? ⟨w.1.size+1+1,0,none⟩=some (.slice none 0 0):=by rw[hW0];simp[go_sem]
 have r1:W0.frozen? ⟨w.1.size+1+1,0,none⟩=false:=by rw[hW0];simp[go_sem]
 have r2:W0.cell? ⟨w.1.size+1+1+1,0,none⟩=some (.slice none 0 0):=by rw[hW0];simp[go_sem]
 have r3:W0.frozen? ⟨w.1.size+1+1+1,0,none⟩=false:=by rw[hW0];simp[go_sem]
 clear hW0;have hq0:ts=[]∨∃off,ao=some ⟨g,off,none⟩∧g<W0.1.size∧∀j,j<ts.length→W0.cell? ⟨g,off+j,none⟩=some (.int .i64 (el ts j)):=by
  rcases hg with h|⟨off,h1,h3,h4⟩
  ·exact .inl h
  ·exact .inr ⟨off,h1,by omega,fun j hj=>(hBW.cell (p:=⟨g,off+j,none⟩) h3).trans (h4 j hj)⟩
 have hgW:g<W0.1.size:=by omega
 have hinv0:DInvI w.1.size ts pl g [] W0:=⟨b0,⟨r0,r1⟩,⟨.slice none 0 0,r2,Kind.Own.nil _ _ _⟩,r3,hgW⟩;clear b0 r0 r1 r2 r3 hg;obtain⟨i0,hi,hz0,hz1,hz2⟩:=info_parts Tryz.info3;refine wpIn_rangeFunc_ownG hro (by omega) (gf:=272) (lb := #[.pointer (some ⟨w.1.size+1+1+1+1,0,none⟩)]) rfl trivial (enters_of func272 (by kernel_rfl) rfl)
  (allI_stops Fence.wide (4-1) trivial hro (by omega) (w.1.size+1+1+1+1) g ao cap ts (by omega) W0 (by omega) cW hq0) SameB.trans (Us hgW) (Below.refl _ _) (fun _=>rfl)
  (fun pre W=>(pre.length≤ts.length∧DInvI w.1.size ts pl g pre W)∧Below w.1.size w W)
  (fun _ _ _=>False)
  (OwnFrom.and (Own.from (fun s A B row hs hg hr=>⟨hs.1,hs.2.kept hg hr⟩) _) (ownFrom_below (Nat.le_refl _) (by omega)))
  (fun _ _ _ _ _ hs _ _=>hs)
  ⟨⟨by simp,hinv0⟩,hBW⟩
  (fun x=>{ tmps := #[Value.agg #[Value.slice ao ts.length cap],Value.int .i64 pl,Value.pointer (some ⟨w.1.size,0,none⟩),Value.pointer (some ⟨w.1.size+1,0,none⟩),Value.pointer (some ⟨w.1.size+1+1,0,none⟩),Value.pointer (some ⟨w.1.size+1+1+1,0,none⟩),Value.int .i64 (x:Int),Value.int .i64 (el ts x),Value.agg #[Value.slice ao ts.length cap],Value.func (Fn.func 272) #[] #[Value.pointer (some ⟨w.1.size+1+1+1+1,0,none⟩)],Value.int .i64 (x:Int),Value.int .i64 (el ts x),undef,undef,undef,undef,undef,undef,undef,undef,undef],defers:=[] }) ?assign ?body ?done ?stop
 case assign =>
  intro l x W K hK;simp only[tvI]
  gi_wp2
  exact hK
 case body =>
  rintro l pre x W ⟨⟨hpl,hI⟩,hB⟩ hlen;have HL:Zi ((pre++[x]).length≤ts.length):=by simp[Zi];omega
  have hkl:=keepE_len ts pl pre;have hK1:=keepE_snoc ts pl pre x;obtain⟨hb0,⟨hr0,hr1⟩,⟨v,hv,hown⟩,hr3,hgW'⟩:=hI;obtain⟨go,qc,rfl,_⟩:=hown.fresh;have hBs:=hB.size;have hsB:w.1.size+1+1+1<W.1.size:=World.block_lt_of_cell? _ _ hv;obtain⟨x1,ex⟩:=nmd (el ts x);rw[←ex]at hK1 ⊢;clear ex;have HO:Zi (kI.Own (w.1.size+1+1+1+1) W (.slice go (Yd ts pl pre).length qc) (Yd ts pl pre)):=hown;have HK1:Zi (Yd ts pl (pre++[x])=if(x:Int)=pl then Yd ts pl pre else Yd ts pl pre++[x1]):=hK1;clear hown hK1
  generalize hF:Yd ts pl pre=F at *
  by_cases hx:(x:Int)=pl
  ·have hx':((x:Int) != pl)=false:=by simpa using hx
   have HE:Zi (Yd ts pl (pre++[x])=F):=by rw[Zi,HK1.o,if_pos hx]
   clear hx hF
   gi_wp2
   exact⟨KeepsFrom.refl _ _,rfl,⟨HL.o,hb0,⟨hr0,hr1⟩,⟨_,hv,by rw[HE.o];exact HO.o⟩,hr3,hgW'⟩,hB⟩
  ·have hx':((x:Int) != pl)=true:=by simpa using hx
   have HE:Zi (Yd ts pl (pre++[x])=F++[x1]):=by rw[Zi,HK1.o,if_neg hx]
   have HX:Zi (w.1.size+1+1+1+1≤(W.alloc (.cells #[.int .i64 x1] 3)).heap.size∧(∀j u,([.int .i64 x1]:List Value)[j]? = some u→(W.alloc (.cells #[.int .i64 x1] 3)).cell? ((⟨W.1.size,0,none⟩:Addr).add j)=some u)∧∀u∈([.int .i64 x1]:List Value),u.oneCell'=true):=by
    refine⟨by simp;omega,fun j u h=>?_,fun u hu=>by simp at hu;rcases hu with rfl <;> rfl⟩
    match j,h with
    |0,h=>simp at h;subst h;simp[Addr.add]
   clear hx hF
   gi_wp2_with (gi_at_builtin;refine wpListIn_append_own (W.alloc (.cells #[.int .i64 x1] 3)) rfl (.tmp 15) (.tmp 17) 25 rfl (w.1.size+1+1+1+1) 3 i0 (.int .i64 0) 1 8 underlying25 hi hz0 hz1 hz2 rfl (by decide) (.slice go F.length qc) F.length (kI.flat F) rfl (HO.o.below (Zk _ _)) ⟨W.1.size,0,none⟩ 1 1 [.int .i64 x1] rfl rfl HX.o.2.1 HX.o.2.2 (by unfold maxLen;omega) (by omega) HX.o.1 ?_;intro v' w1 hown' hgrow _;have hob1:=Kind.Own.low (xs:=F) (HO.o.below (Zk W (.cells #[.int .i64 x1] 3)));have hob2:=own_cells (HO.o.below (Zk W (.cells #[.int .i64 x1] 3)));have hlow:∀k,k<w.1.size+1+1+1+1→w1.heap[k]? = W.heap[k]? := (fun k hk=>(hgrow.block k (by simp;omega) (fun e=>by have:=hob1 k e.symm;omega)).trans (Below.heap_alloc _ _ k (by omega)));have l0:w1.cell? ⟨w.1.size+1+1+1,0,none⟩=some (.slice go F.length qc):=(World.cell?_of_block (a:=⟨w.1.size+1+1+1,0,none⟩) (hlow _ (by simp))).trans hv;have l1:w1.frozen? ⟨w.1.size+1+1+1,0,none⟩=false:=(World.frozen?_of_block (a:=⟨w.1.size+1+1+1,0,none⟩) (hlow _ (by simp))).trans hr3;have HH:Zi (kI.Own (w.1.size+1+1+1+1) w1 v' (F++[x1])∧KeepsOthers W w1∧(∀k,k<w.1.size+1+1+1+1→w1.heap[k]? = W.heap[k]?)∧W.1.size≤w1.1.size∧w1.os=W.os∧w1.tape=W.tape∧w1.output=W.output):=⟨(by unfold Kind.Own;rw[Kind.flat_app,List.length_append];exact hown'),(KeepsOthers.alloc _ _).trans (KeepsOthers.of_grownBy hgrow hob2),hlow,(by have:=hgrow.size;simp at this;omega),hgrow.os,hgrow.tape,hgrow.output⟩;obtain⟨go',qc',rfl,_⟩:=HH.o.1.fresh;clear hown' hgrow hob1 hob2 hlow)
   obtain⟨ho,hk,hlow,hsz,c1,c2,c3⟩:=HH.o;have hB1:Below w.1.size w w1:=hB.trans ⟨c1,c2,c3,hsz,fun k hk=>hlow k (by omega)⟩;refine⟨(hk.trans (KeepsOthers.setCell _ _ _)).from _,SameB.trans (hlow g (by omega)) (Ur (by simp;omega)),⟨HL.o,?_,⟨?_,?_⟩,⟨_,World.cell?_setCell_same' _ _ _ (by rw[l0];rfl),?_⟩,by rw[World.frozen?_setCell];exact l1,by simp;omega⟩,hB1.setCell (p:=⟨w.1.size+1+1+1,0,none⟩) (by simp;omega) _⟩
   ·rw[World.cell?_setCell_other _ _ _ _ (by simp)];exact(World.cell?_of_block (a:=⟨w.1.size+1,0,none⟩) (hlow (w.1.size+1) (by omega))).trans hb0
   ·rw[World.cell?_setCell_other _ _ _ _ (by simp)];exact(World.cell?_of_block (a:=⟨w.1.size+1+1,0,none⟩) (hlow (w.1.size+1+1) (by omega))).trans hr0
   ·rw[World.frozen?_setCell];exact(World.frozen?_of_block (a:=⟨w.1.size+1+1,0,none⟩) (hlow (w.1.size+1+1) (by omega))).trans hr1
   ·rw[HE.o];have h:=ho.setBelow (a:=⟨w.1.size+1+1+1,0,none⟩) (by simp) (.slice go' (F++[x1]).length qc')
    simpa using h
 case done =>
  rintro D ys W hD rfl ⟨⟨hpl,hI⟩,hB⟩ hK;obtain⟨hb0,⟨hr0,hr1⟩,⟨v,hv,hown⟩,hr3,hgW'⟩:=hI;rw[←HR.o]at hown;obtain⟨go,qc,rfl,_,hF⟩:=hown.fresh;have HF:Zi (kI.Fresh (w.1.size+1+1+1+1) W.1.size W go qc R):=hF;clear hF hown hpl
  gi_wp2
  have hk1:KeepsOthers W (W.setCell ⟨w.1.size+1+1,0,none⟩ (.slice go R.length qc)):=KeepsOthers.setCell _ _ _;have hK':=hk1.same D _ hK rfl;have hX0:(W.setCell ⟨w.1.size+1+1,0,none⟩ (.slice go R.length qc)).cell? ⟨w.1.size+1+1,0,none⟩=some (.slice go R.length qc):=World.cell?_setCell_same' _ _ _ (by rw[hr0];rfl);refine⟨by simp,.inl ⟨_,_,rfl,run_takeDeferred hK',?_⟩⟩;have hc5:=cell_kept hX0 (grownBy_putObj' _ D (.deferred none)) (fun r e=>by cases e;exact⟨_,hK',rfl⟩);have hF2:=HF.o.setBelow (a:=⟨w.1.size+1+1,0,none⟩) (by simp) (.slice go R.length qc);refine⟨.agg #[.slice go R.length qc],?_,⟨go,qc,rfl,?_⟩,(hB.setCell (p:=⟨w.1.size+1+1,0,none⟩) (by simp;omega) _).trans (belowK_b (w:=W0) (by omega) _ D _ _ hD hK' rfl rfl)⟩
  ·simp[results,Tryz.f235,go_sem,hc5]
  ·exact(hF2.kept (grownBy_putObj' _ D (.deferred none)) (fun r e=>by cases e;exact⟨_,hK',rfl⟩)).wide (by omega) (by simp)
 case stop =>
  rintro D c pre W _ _ h _;exact h.elim
end
def AnsI(w:World)(q:List Int)(e:Ending)(w':World):Prop:=(∃go qc,e=.returned (.slice go q.length qc)∧kI.Fresh w.1.size w'.1.size w' go qc q)∧Below w.1.size w w'
def Qh(n:Nat):List Int:=(List.range n).map fun k:Nat=>(k:Int)
theorem Qd(n:Nat):(Qh n).length=n:=by simp[Qh]
theorem Te(n:Nat):Qh (n+1)=Qh n++[(n:Int)]:=by simp[Qh,List.range_succ]
theorem Xd{n:Nat}{x:Int}(h:x∈Qh n):∃k:Nat,k<n∧x=(k:Int):=by
 simp only[Qh,List.mem_map,List.mem_range]at h;obtain⟨k,hk,rfl⟩:=h;exact⟨k,hk,rfl⟩
theorem Vr(ao:Option Addr)(cap n:Nat)(w:World)(hl:n≤1048576) :
  Calls prog 202 #[.slice ao n cap] w fun e w'=>AnsI w (Qh n) e w':=by
 go_enter func202,ntmps202;go_wp2
 go_loopw [3,7] (fun u i wr=>∃(k:Nat)(v:Value),v=u∧k≤n∧i=.int .i64 k∧Zi (kI.Own w.1.size wr v (Qh k))∧Below w.1.size w wr) (fun _ i _=>n-(intOf i).toNat)
 case atStart=>exact⟨0,_,rfl,Nat.zero_le _,rfl,Kind.Own.nil _ _ _,Below.refl _ _⟩
 case round =>
  obtain⟨k,v,rfl,hk,rfl,hO,hB⟩:=hrel
  by_cases hlt:k<n
  ·have hs:=hB.size;have HA:Zi (kI.Own w.1.size (wr.alloc (.cells #[.int .i64 (k:Int)] 3)) v (Qh k)):=hO.o.below (Zk _ _);have HN:Zi (kI.In (wr.1.size+1) (wr.alloc (.cells #[.int .i64 (k:Int)] 3)) (some ⟨wr.1.size,0,none⟩) [(k:Int)]):=Kc (by omega) (by simp);have hll:(Qh k).length+1≤4194304:=by rw[Qd];omega
   have hBa:Below w.1.size w (wr.alloc (.cells #[.int .i64 (k:Int)] 3)):=Zx hB _;go_wp2_with (at_builtin;refine Kind.app Vq (wr.alloc (.cells #[.int .i64 (k:Int)] 3)) rfl (.tmp 10) (.tmp 12) rfl w.1.size v (Qh k) rfl HA.o (by simp;omega) (some ⟨wr.1.size,0,none⟩) [(k:Int)] 1 1 rfl rfl (by simp) _ HN.o hll ?_;intro v' w' hO' hB' hG' hn';have hB2:Below w.1.size w w':=hBa.trans (hB'.mono (by omega));have HO':Zi (kI.Own w.1.size w' v' (Qh (k+1))):=(by rw[Zi,Te];exact hO');clear hO' hB' hG' hn');go_roundw
   case rel=>exact⟨k+1,v',rfl,by omega,by go_num,HO',hB2⟩
   case measure=>simp[intOf];omega
  ·obtain rfl:k=n:=by omega
   obtain⟨qo,qc,rfl,_,hF⟩:=hO.o.fresh;have HF:=Zd hF;clear hF hO;rw[Qd];go_wp2;go_ret;exact⟨⟨_,_,by rw[Qd];rfl,HF.o⟩,hB⟩
def Gy(gs:List PNode)(a b:Int):Bool:=Wr (el gs a.toNat).2.2.2.2.2 b
def Hf(gs:List PNode)(l:List Int)(b:Int):Bool:=l.any fun a=>Gy gs a b
def Qb(gs:List PNode):Nat→List Int→List Int→List Int×List Int
 |0,o,l=>(o,l)
 |n+1,o,l=>match l.findIdx? (fun b => !Hf gs l b)with
  |none=>(o,l)
  |some k=>Qb gs n (o++[el l k]) (l.take k++l.drop (k+1))
theorem leads_is(pg:Nat)(ao:Option Addr)(cap:Nat)(ts:List LNode)(k:Nat)(b:Int)(w:World)(hk:k<ts.length)(hF:FitN ts)(hG:GrIn w pg ao cap ts) :
  Calls prog 206 #[.int .i64 (k:Int),.int .i64 b,.pointer (some ⟨pg,0,none⟩)] w fun e w'=>e=.returned (.bool (Gy (ts.map Zz) k b))∧Below w.1.size w w':=by
 have HG:=Zd hG;have hki:(k:Int)<(ts.length:Int):=by omega
 clear hG;obtain⟨bb,off,rfl,hb,hc⟩:=Qw HG.o.rows.1 hk;have d6:=(hc k hk).2.2.2.2.2;have hfk:=hF _ (Zl hk);have hev:=Jz hk;have hin:=HG.o.rows.2 k hk;obtain⟨⟨nm,kd,sa,sb,cp,⟨nxo,nxc,nx⟩⟩,ex⟩:∃v,v=el ts k:=⟨_,rfl⟩;rw[←ex]at d6 hfk hev hin;have E1:Zi (Gy (ts.map Zz) k b=Wr nx b):=by rw[Zi,Gy,Int.toNat_natCast,hev];rfl
 have HI:Zi (kI.In w.1.size w nxo nx):=hin;have c0:=HG.o.box.c 0 rfl;clear hc hev hin;dsimp only at d6 hfk;go_enter func206,ntmps206;go_wp2_with fail;refine(Ux w.1.size nxo nxc nx b w (Wr nx b) hfk.2 HI.o rfl).mono ?_;rintro e w1 ⟨rfl,rfl⟩;go_wp2;go_ret;exact⟨Zp E1.o.symm,Below.refl _ _⟩
theorem Tryz.entersB1:∀args w,(callFunc 232 args).run prog w=.ok (.enter 232 args) w:=enters_of func232 (by kernel_rfl) rfl
theorem Tryz.entersB2:∀args w,(callFunc 233 args).run prog w=.ok (.enter 233 args) w:=enters_of func233 (by kernel_rfl) rfl
theorem behind2_is(pg pl pt:Nat)(ao:Option Addr)(cap:Nat)(ts:List LNode)(k:Nat)(b:Int)(w:World)(hk:k<ts.length)(hF:FitN ts)(hG:GrIn w pg ao cap ts)(hL:w.cell? ⟨pl,0,none⟩=some (.func (.func 206) #[] #[.pointer (some ⟨pg,0,none⟩)]))(hT:w.cell? ⟨pt,0,none⟩=some (.int .i64 b)) :
  Calls prog 233 #[.int .i64 (k:Int),.pointer (some ⟨pl,0,none⟩),.pointer (some ⟨pt,0,none⟩)] w fun e w'=>e=.returned (.bool (Gy (ts.map Zz) k b))∧Below w.1.size w w':=by
 have hcon:=leads_is pg ao cap ts k b w hk hF hG;clear hG;go_enter func233,ntmps233;go_wp2_with fail;refine hcon.mono ?_;rintro e w1 ⟨rfl,hb1⟩;go_wp2;go_ret;exact⟨rfl,hb1⟩
theorem behind1_is(pg pl pq:Nat)(ao:Option Addr)(cap:Nat)(ts:List LNode)(lo:Option Addr)(lc:Nat)(l:List Int)(b:Int)(w:World)(hl:l.length≤1048576)(hv:∀x∈l,∃k:Nat,k<ts.length∧x=(k:Int))(hF:FitN ts)(hG:GrIn w pg ao cap ts)(hL:Bx w pl [.func (.func 206) #[] #[.pointer (some ⟨pg,0,none⟩)]])(hQ:Bx w pq [.slice lo l.length lc])(hz:kI.In w.1.size w lo l) :
  Calls prog 232 #[.int .i64 b,.pointer (some ⟨pq,0,none⟩),.pointer (some ⟨pl,0,none⟩)] w fun e w'=>e=.returned (.bool (!Hf (ts.map Zz) l b))∧Below w.1.size w w':=by
 obtain⟨V,hV⟩:=nmd (w.alloc (.cells #[.int .i64 b] 3));have hb:Below w.1.size w V:=by rw[hV];exact Zk _ _
 have hX:Bx V w.1.size [.int .i64 b]:=by rw[hV];exact Bx.new [.int .i64 b] _ rfl
 have hcon:=Kg 233 #[.pointer (some ⟨pl,0,none⟩),.pointer (some ⟨w.1.size,0,none⟩)] Tryz.entersB2 lo lc l (fun a=>Gy (ts.map Zz) a b) V hl (hz.later hb) (fun x W hx hW=>by
  obtain⟨k,hk,rfl⟩:=hv x hx;exact behind2_is pg pl w.1.size ao cap ts k b W hk hF ((hG.later hb).later hW) (((hL.later hb).later hW).c 0 rfl) ((hX.later hW).c 0 rfl))
 have hq:=(hQ.later hb).c 0 rfl;have q0:=hQ.c 0 rfl;have hqs:=hQ.size;have HV:=Zd hV;have HB:=Zd hb;clear hV hX hz hb hQ hL hG hv;go_enter func232,ntmps232;go_wp2_with fail;rw[←HV.o];refine hcon.mono ?_;rintro e w1 ⟨rfl,hb1⟩;have hB1:Below w.1.size w w1:=HB.o.trans (hb1.mono HB.o.size);clear hb1;go_wp2;go_ret;exact⟨rfl,hB1⟩
end Go.Proofs.YtdacedbfnlkghaaGreatDoor