/- A graph in its own memory; what is put behind it and what is written into it. Nodes that have a text, on both sides. The text of a whole number: the specification's. The library's text of a whole number. Texts joined: numbers, and what lies behind a node. No conditions but those written. -/
import Derived.Test.YtdacedbfnlkghaaGreatDoorUZcZh
import Derived.Deep.RegionLawGrows
import Derived.Laws.BytesString
import Derived.Lib.ItoaMem
import Derived.Shelf.Lay
import Derived.Shelf.Strconv.Itoa3
import Derived.Lib.AppendIntMem
import Derived.Shelf.Strings.OnBuilder
namespace Go.Proofs.YtdacedbfnlkghaaGreatDoor
set_option maxHeartbeats 4000000
set_option maxRecDepth 100000
open Go.RowKit Go.Proofs.Tryz
section
open Go.RowKit
theorem fresh_rw{α:Type}{K:Kind α}{lo hi:Nat}{W:World}{c:Nat}{ao:Option Addr}{xs:List α}(h:K.RW lo hi W ao c xs):K.Fresh lo hi W ao c xs:=by
 rcases h.1.2 with⟨e,h0⟩|⟨g,c2,cur,e,r⟩
 ·exact .inl (List.length_eq_zero_iff.1 h0)
 ·have e1:ao=some ⟨g,0,none⟩:=by simp at e;exact e.1
  exact .inr ⟨g,e1,h.2 g 0 e1,by rw[←e1];exact h.1⟩
theorem DFr.snoc{A:Type} [Inhabited A] {D:Deep A} (hD:D.Ok) {lo hi hi2:Nat} {W W':World} {ao ao':Option Addr} {c c':Nat} {ts:List A} {x:A} (h:DFr D lo hi W ao c ts) (hx:D.Fr hi hi2 W x) (hl:lo≤hi) (hh:hi≤hi2) (hK:D.K.Fresh lo hi2 W' ao' c' (ts++[x])) (hk:∀b,(∃j,j<ts.length∧D.own (el ts j) b)∨D.own x b→W'.heap[b]? = W.heap[b]?):DFr D lo hi2 W' ao' c' (ts++[x]):=by
 refine⟨hK,fun j hj=>?_,fun i j hij hj b h1=>?_⟩
 ·by_cases hj':j<ts.length
  ·rw[Uk hj'];exact hD.wide (hD.keep (h.2.1 j hj') fun b hb=>hk b (.inl ⟨j,hj',hb⟩)) (Nat.le_refl _) hh
  ·obtain rfl:j=ts.length:=by simp at hj;omega
   rw[Rm rfl];exact hD.wide (hD.keep hx fun b hb=>hk b (.inr hb)) hl (Nat.le_refl _)
 ·have hi':i<ts.length:=by simp at hj;omega
  rw[Uk hi']at h1
  by_cases hj':j<ts.length
  ·rw[Uk hj'];exact h.2.2 i j hij hj' b h1
  ·obtain rfl:j=ts.length:=by simp at hj;omega
   rw[Rm rfl];intro h2;have h3:=(hD.lt (h.2.1 i hi') h1).2.1;have h4:=(hD.lt hx h2).1
   omega
section
variable {lo hi:Nat} {W W':World} {o:Option Addr} {c:Nat} {us:List LNode}
theorem own_type{lo':Nat}{v:Value}{xs:List LNode}(h:Pf.Own lo' W v xs){b:Nat}(hb:v.ownBlock=some b):∃cur,W.heap[b]? = some (.cells cur 27 (0,0)):=by
 rcases h.2 with⟨e,_⟩|⟨g,cap,cur,e,_,hh,_⟩
 ·subst e;simp[Value.ownBlock]at hb
 ·subst e;simp[Value.ownBlock]at hb;subst hb;exact⟨cur,hh⟩
end
theorem hNode_one{n:Nat}{W:World}{p:Nat}{nm:ByteArray}{kd sa sb cp:Int}{nxo:Option Addr}{nxc:Nat}{nx:List Int}(hp:p<n)(h:Bx W p [.string nm,.int .i64 kd,.int .i64 sa,.int .i64 sb,.int .i64 cp,.slice nxo nx.length nxc]):Pf.In n W (some ⟨p,0,none⟩) [((nm,kd,sa,sb,cp,(nxo,nxc,nx)):LNode)]:=by
 refine Kind.In.mk1 hp fun i hi=>?_
 rw[Nat.zero_add];have hi':i<6:=hi
 rcases(show i=0∨i=1∨i=2∨i=3∨i=4∨i=5 from by omega)with rfl|rfl|rfl|rfl|rfl|rfl
 ·exact h.c 0 rfl
 ·exact h.c 1 rfl
 ·exact h.c 2 rfl
 ·exact h.c 3 rfl
 ·exact h.c 4 rfl
 ·exact h.c 5 rfl
section
variable {lo hi:Nat} {W W':World} {o:Option Addr} {c:Nat} {us:List LNode}
end
section
variable {lo hi:Nat} {W W':World} {o:Option Addr} {c:Nat} {us:List LNode}
end
end
def Fx(x:Int):Bool:=decide (x<0)||decide (9999999<x)
def hasT(nm:ByteArray)(kd sa sb cp:Int)(nx:List Int):Bool:=Yv nm && (Zg kd sa sb && (!Fx cp && (decide (nx.length≤20) && !nx.any Fx)))
theorem farB_in(x:Int):(decide (0≤x) && decide (x≤9999999)) = !Fx x:=by
 unfold Fx
 by_cases h1:0≤x
 ·by_cases h2:x≤9999999
  ·simp[h1,h2] <;> omega
  ·simp[h1,h2] <;> omega
 ·simp[h1] <;> omega
theorem Cx(nm:ByteArray)(kd sa sb cp:Int)(nxo:Option Addr)(nxc:Nat)(nx:List Int)(w:World)(hs:nm.size≤9223372036854775807)(hl:nx.length≤4194304)(hz:InNode w.1.size w nxo nx) :
  Calls prog 32 #[.agg #[.string nm,.int .i64 kd,.int .i64 sa,.int .i64 sb,.int .i64 cp,.slice nxo nx.length nxc]] w fun e w'=>e=.returned (.bool (hasT nm kd sa sb cp nx))∧Below w.1.size w w':=by
 have hB0:=Zk w (.cells #[.string nm,.int .i64 kd,.int .i64 sa,.int .i64 sb,.int .i64 cp,.slice nxo nx.length nxc] 27);have hcn:=fun W=>Mo nm W hs
 obtain⟨r,hr⟩:=nmd (hasT nm kd sa sb cp nx);rw[←hr]
 unfold hasT at hr
 cases hn:Yv nm
 ·rw[hn]at hcn hr;obtain rfl:r=false:=by simpa using hr
  clear hr;go_enter func32,ntmps32;go_wp2_with fail;refine(hcn _).mono ?_;rintro e w1 ⟨rfl,hw1⟩;rw[hw1];clear hw1 w1
  go_wp2;go_ret;exact⟨rfl,hB0⟩
 rw[hn]at hcn hr
 cases hg:Zg kd sa sb
 ·rw[hg]at hr;obtain rfl:r=false:=by simpa using hr
  clear hr;have HG:=Zd hg;clear hg;go_enter func32,ntmps32;go_wp2_with fail;refine(hcn _).mono ?_;rintro e w1 ⟨rfl,hw1⟩;rw[hw1];clear hw1 w1
  go_wp2_with fail;refine(Js kd sa sb _ _ HG.o).mono ?_;rintro e w1 ⟨rfl,hw1⟩;rw[hw1];clear hw1 w1
  go_wp2;go_ret;exact⟨rfl,Qf _ _ _⟩
 rw[hg]at hr;have HG:=Zd hg;clear hg;have X1:=((Bx.new (w:=w) [.string nm,.int .i64 kd,.int .i64 sa,.int .i64 sb,.int .i64 cp,.slice nxo nx.length nxc] 27 rfl).alloc (.cells #[.int .i64 kd,.int .i64 sa,.int .i64 sb] 24));have hB1:=Qf w (.cells #[.string nm,.int .i64 kd,.int .i64 sa,.int .i64 sb,.int .i64 cp,.slice nxo nx.length nxc] 27) (.cells #[.int .i64 kd,.int .i64 sa,.int .i64 sb] 24)
 cases hf:Fx cp
 case true =>
  rw[hf]at hr;obtain rfl:r=false:=by simpa using hr
  clear hr;have HF:Zi ((decide (0≤cp) && decide (cp≤9999999))=false):=by rw[Zi,farB_in,hf];rfl
  clear hf;go_enter func32,ntmps32;go_wp2_with fail;refine(hcn _).mono ?_;rintro e w1 ⟨rfl,hw1⟩;rw[hw1];clear hw1 w1
  go_wp2_with fail;refine(Js kd sa sb _ _ HG.o).mono ?_;rintro e w1 ⟨rfl,hw1⟩;rw[hw1];clear hw1 w1
  go_wp2_with fail;refine(Zr cp 0 9999999 _ _ HF.o).mono ?_;rintro e w1 ⟨rfl,hw1⟩;rw[hw1];clear hw1 w1
  go_wp2;go_ret;exact⟨rfl,hB1⟩
 rw[hf]at hr;have HF:Zi ((decide (0≤cp) && decide (cp≤9999999))=true):=by rw[Zi,farB_in,hf];rfl
 clear hf
 by_cases h20:nx.length≤20
 case neg =>
  obtain rfl:r=false:=by simpa[h20]using hr
  clear hr;go_enter func32,ntmps32;go_wp2_with fail;refine(hcn _).mono ?_;rintro e w1 ⟨rfl,hw1⟩;rw[hw1];clear hw1 w1
  go_wp2_with fail;refine(Js kd sa sb _ _ HG.o).mono ?_;rintro e w1 ⟨rfl,hw1⟩;rw[hw1];clear hw1 w1
  go_wp2_with fail;refine(Zr cp 0 9999999 _ _ HF.o).mono ?_;rintro e w1 ⟨rfl,hw1⟩;rw[hw1];clear hw1 w1
  go_wp2;go_ret;exact⟨rfl,hB1⟩
 have HR:Zi (r = !nx.any Fx):=by rw[Zi];simpa[h20]using hr
 clear hr;go_enter func32,ntmps32;go_wp2_with fail;refine(hcn _).mono ?_;rintro e w1 ⟨rfl,hw1⟩;rw[hw1];clear hw1 w1
 go_wp2_with fail;refine(Js kd sa sb _ _ HG.o).mono ?_;rintro e w1 ⟨rfl,hw1⟩;rw[hw1];clear hw1 w1
 go_wp2_with fail;refine(Zr cp 0 9999999 _ _ HF.o).mono ?_;rintro e w1 ⟨rfl,hw1⟩;rw[hw1];clear hw1 w1
 have HI:=Zd (Kind.In.later hz hB1);obtain⟨V,hV⟩:=nmd ((w.alloc (.cells #[.string nm,.int .i64 kd,.int .i64 sa,.int .i64 sb,.int .i64 cp,.slice nxo nx.length nxc] 27)).alloc (.cells #[.int .i64 kd,.int .i64 sa,.int .i64 sb] 24));rw[←hV]at HI hB1 X1 ⊢;have x5:=X1.c 5 rfl;clear hV X1;go_wp2
 go_loop [30] (fun i=>∃k:Nat,k≤nx.length∧i=.int .i64 k∧Zi (∀j,j<k→Fx (el nx j)=false)) (fun i=>nx.length-(intOf i).toNat)
 case atStart=>exact⟨0,Nat.zero_le _,rfl,fun j hj=>by omega⟩
 case round =>
  obtain⟨k,hk,rfl,hno⟩:=hrel
  by_cases hlt:k<nx.length
  ·obtain⟨b,off,rfl,hb,hc⟩:=Zo HI.o hlt;have hck:=hc k hlt;clear hc;obtain⟨x,hx⟩:=nmd (el nx k);rw[←hx]at hck;have HX:=Zd hx;clear hx
   cases hf:Fx x
   ·have HF2:Zi ((decide (0≤x) && decide (x≤9999999))=true):=by rw[Zi,farB_in,hf];rfl
    have HF3:=Zd hf;clear hf;go_wp2_with fail;refine(Zr x 0 9999999 _ _ HF2.o).mono ?_;rintro e w1 ⟨rfl,hw1⟩;rw[hw1];clear hw1 w1
    go_wp2;go_round
    case rel=>exact⟨k+1,by omega,by go_num,fun j hj=>by
     rcases Nat.lt_succ_iff_lt_or_eq.1 hj with h|rfl
     ·exact hno.o j h
     ·rw[←HX.o];exact HF3.o⟩
    case measure=>simp[intOf];omega
   ·have HF2:Zi ((decide (0≤x) && decide (x≤9999999))=false):=by rw[Zi,farB_in,hf];rfl
    have HRF:Zi (r=false):=by
     have h:nx.any Fx=true:=by rw[List.any_eq_true];exact⟨_,Zl hlt,by rw[←HX.o];exact hf⟩
     rw[Zi,HR.o,h];rfl
    clear hf;go_wp2_with fail;refine(Zr x 0 9999999 _ _ HF2.o).mono ?_;rintro e w1 ⟨rfl,hw1⟩;rw[hw1];clear hw1 w1
    go_wp2;go_ret;exact⟨Zp HRF.o.symm,hB1⟩
  ·obtain rfl:k=nx.length:=by omega
   have HRT:Zi (r=true):=by
    have h:nx.any Fx=false:=by
     rw[List.any_eq_false];intro x hx
     obtain⟨j,hj,rfl⟩:=Gx hx;rw[hno.o j hj];simp
    rw[Zi,HR.o,h];rfl
   go_wp2;go_ret;exact⟨Zp HRT.o.symm,hB1⟩
theorem Tryz.entersHT:∀args w,(callFunc 63 args).run prog w=.ok (.enter 63 args) w:=enters_of func63 (by kernel_rfl) rfl
theorem far_is(x:Int)(w:World) :
  Calls prog 63 #[.int .i64 x] w fun e w'=>e=.returned (.bool (Fx x))∧w'=w:=by
 by_cases h:x<0
 ·have hf:Fx x=true:=by simp[Fx,h]
  rw[hf];go_enter func63,ntmps63;go_wp2;go_ret;exact⟨rfl,rfl⟩
 ·have hf:Fx x=decide (9999999<x):=by simp[Fx,h]
  rw[hf];go_enter func63,ntmps63;go_wp2;go_ret;exact⟨rfl,rfl⟩
theorem hasText_is(nm:ByteArray)(kd sa sb cp:Int)(nxo:Option Addr)(nxc:Nat)(nx:List Int)(w:World)(hs:nm.size≤9223372036854775807)(hl:nx.length≤4194304)(hz:InNode w.1.size w nxo nx) :
  Calls prog 27 #[.agg #[.string nm,.int .i64 kd,.int .i64 sa,.int .i64 sb,.int .i64 cp,.slice nxo nx.length nxc]] w fun e w'=>e=.returned (.bool (hasT nm kd sa sb cp nx))∧Below w.1.size w w':=by
 have hB0:=Zk w (.cells #[.string nm,.int .i64 kd,.int .i64 sa,.int .i64 sb,.int .i64 cp,.slice nxo nx.length nxc] 27);have X0:=Zd (Bx.new (w:=w) [.string nm,.int .i64 kd,.int .i64 sa,.int .i64 sb,.int .i64 cp,.slice nxo nx.length nxc] 27 rfl);have hcn:=fun W=>isName_is nm W hs
 obtain⟨r,hr⟩:=nmd (hasT nm kd sa sb cp nx);rw[←hr]
 unfold hasT at hr
 cases hn:Yv nm
 ·rw[hn]at hcn hr;obtain rfl:r=false:=by simpa using hr
  clear hr;go_enter func27,ntmps27;go_wp2_with fail;refine(hcn _).mono ?_;rintro e w1 ⟨rfl,hb1⟩;have hB1:=hB0.trans (hb1.mono hB0.size);go_wp2;go_ret;exact⟨rfl,hB1⟩
 rw[hn]at hcn hr;obtain⟨g,hg⟩:∃g,Zg kd sa sb=g:=⟨_,rfl⟩;rw[hg]at hr;have HG:=Zd hg;clear hg;have HR:=Zd hr;clear hr;go_enter func27,ntmps27;go_wp2_with fail;refine(hcn _).mono ?_;rintro e w1 ⟨rfl,hb1⟩;have hB1:=hB0.trans (hb1.mono hB0.size);have X1:=Zd (X0.o.later hb1);clear hb1 X0 hB0;have x1:=X1.o.c 1 rfl;have x2:=X1.o.c 2 rfl;have x3:=X1.o.c 3 rfl;go_wp2_with fail;refine(Bq kd sa sb _ _ HG.o).mono ?_;rintro e w2 ⟨rfl,hb2⟩;have hB2:=hB1.trans (hb2.mono hB1.size);have X2:=Zd (X1.o.later hb2);clear hb2 X1 hB1 x1 x2 x3
 cases g
 ·have HRF:Zi (r=false):=by rw[Zi,HR.o];simp
  go_wp2;go_ret;exact⟨Zp HRF.o.symm,hB2⟩
 have x4:=X2.o.c 4 rfl;go_wp2_with fail;refine(far_is cp _).mono ?_;rintro e w3 ⟨rfl,hw3⟩;rw[hw3];clear hw3 w3 x4
 cases hf:Fx cp
 case true =>
  have HRF:Zi (r=false):=by rw[Zi,HR.o,hf];simp
  go_wp2;go_ret;exact⟨Zp HRF.o.symm,hB2⟩
 have HR2:Zi (r=(decide (nx.length≤20) && !nx.any Fx)):=by rw[Zi,HR.o,hf];simp
 clear hf HR;have x5:=X2.o.c 5 rfl
 by_cases h20:nx.length≤20
 ·have HR3:Zi (r = !nx.any Fx):=by rw[Zi,HR2.o];simp[h20]
  have hcon:=Kg 63 #[] Tryz.entersHT nxo nxc nx Fx w2 (by omega) (Kind.In.later hz hB2) (fun x W _ _=>(far_is x W).mono fun _ _ h=>⟨h.1,by rw[h.2];exact Below.refl _ _⟩);clear HR2;go_wp2_with (go_at_call 66;refine hcon.mono ?_;rintro e w3 ⟨rfl,hb3⟩);go_ret;exact⟨Zp HR3.o.symm,hB2.trans (hb3.mono hB2.size)⟩
 ·have HR3:Zi (r=false):=by rw[Zi,HR2.o];simp[h20]
  go_wp2;go_ret;exact⟨Zp HR3.o.symm,hB2⟩
def tx(l:List UInt8):ByteArray:=⟨l.toArray⟩
theorem tx_app(a b:List UInt8):tx a++tx b=tx (a++b):=by
 apply ByteArray.ext
 simp[tx,ByteArray.data_append]
theorem Ki(a:List UInt8):(tx a).size=a.length:=by simp[tx,ByteArray.size]
theorem conv_run(W:World)(p:Nat)(x:Int)(hc:W.cell? ⟨p,0,none⟩=some (.int .u8 x)):(convert 22 9 (.slice (some ⟨p,0,none⟩) 1 1)).run prog W=.ok (.string (tx [UInt8.ofNat x.toNat])) W:=by
 rw[run_convert_bytes_string _ _ _ 5 _ _ _ underlying22 underlying5 underlying9];exact run_bytesToString _ _ _ _ [x] (by simp[loadCells,go_sem,hc])
theorem conv_new(W:World)(x:Int):(convert 22 9 (.slice (some ⟨W.1.size,0,none⟩) 1 1)).run prog (W.alloc (.cells #[.int .u8 x] 5))=.ok (.string (tx [UInt8.ofNat x.toNat])) (W.alloc (.cells #[.int .u8 x] 5)) :=
 conv_run _ _ _ (by simp[go_sem])
theorem Xh(u:Nat)(h:u≤9223372036854775808):(Lib.decDigits u).length≤20:=by
 rw[Lib.decDigits_length];have step:∀(k u:Nat),u<10 ^ (k+1)→Lib.nDigits u≤k+1:=by
  intro k
  induction k with
  |zero=>intro u hu;rw[Lib.nDigits_small (by simpa using hu)];exact Nat.le_refl _
  |succ k ih =>
   intro u hu;rw[Lib.nDigits]
   split
   ·omega
   ·have:=ih (u / 10) (by rw[Nat.pow_succ]at hu;omega)
    omega
 have:=step 19 u (by omega)
 omega
theorem num_nat:∀(u:Nat)(w:World),u≤9223372036854775807→
  Calls prog 73 #[.int .i64 (u:Int)] w fun e w'=>e=.returned (.string (tx (Lib.decDigits u)))∧Below w.1.size w w':=by
 intro u
 induction u using Nat.strongRecOn with
 |ind u ih =>
  intro w hu;have h0:decide ((u:Int)<0)=false:=by simp
  by_cases hs:u<10
  ·have h1:decide ((u:Int)<10)=true:=by simp;omega
   have hcv:=conv_new w (48+(u:Int));have hD:tx (Lib.decDigits u)=tx [UInt8.ofNat (48+(u:Int)).toNat]:=by rw[Lib.decDigits_one hs];congr 2
   generalize tx [UInt8.ofNat (48+(u:Int)).toNat]=t at hcv hD
   have HD:=Zd hD;clear hD;go_enter func73,ntmps73;go_wp2;go_ret;exact⟨by rw[HD.o];rfl,Zk _ _⟩
  ·have h1:decide ((u:Int)<10)=false:=by simp;omega
   have hq:(u:Int) / 10=((u / 10:Nat):Int):=by omega
   have hm:(u:Int).tmod 10=((u % 10:Nat):Int):=by rw[Int.tmod_eq_emod_of_nonneg (by omega)];omega
   have hw1:IntKind.i64.wrap ((u:Int) / 10)=(u:Int) / 10:=by rw[IntKind.wrap_i64];omega
   have hw2:IntKind.i64.wrap (48+((u % 10:Nat):Int))=48+((u % 10:Nat):Int):=by rw[IntKind.wrap_i64];omega
   have hw3:IntKind.u8.wrap (48+((u % 10:Nat):Int))=48+((u % 10:Nat):Int):=by show(48+((u % 10:Nat):Int)) % 256=_;omega
   have hih:∀W,Calls prog 73 #[.int .i64 ((u:Int) / 10)] W fun e w'=>e=.returned (.string (tx (Lib.decDigits (u / 10))))∧Below W.1.size W w':=fun W=>by rw[hq];exact ih (u / 10) (by omega) W (by omega)
   have hD:tx (Lib.decDigits u)=tx (Lib.decDigits (u / 10))++tx [UInt8.ofNat (48+((u % 10:Nat):Int)).toNat]:=by
    rw[Lib.decDigits,dif_neg hs,tx_app];congr 3
   have hl:(tx (Lib.decDigits (u / 10))).size≤20:=by rw[Ki];exact Xh (u / 10) (by omega)
   have hm9:u % 10<10:=by omega
   have ht1:(tx [UInt8.ofNat (48+((u % 10:Nat):Int)).toNat]).size=1:=rfl;have hcp:=fun W p=>conv_run W p (48+((u % 10:Nat):Int))
   generalize tx [UInt8.ofNat (48+((u % 10:Nat):Int)).toNat]=t at *
   generalize tx (Lib.decDigits (u / 10))=s at *
   generalize u % 10=r at *
   generalize u / 10=q at *
   have HD:=Zd hD;have HI:=Zd hih;clear hD hih ih hq;go_enter func73,ntmps73;go_wp2
   go_region_with (go_at_call 73;refine(HI.o _).mono ?_;rintro e w1 ⟨rfl,hb1⟩;have hcl:=fun h=>hb1.cell (p:=⟨w.1.size,0,none⟩) h;have HB1:=Zd hb1;clear hb1)
   all_goals go_wp2
   all_goals go_ret
   ·exact⟨by rw[HD.o];rfl,Zx ((Below.refl _ w).drew.trans HB1.o) _⟩
   ·exact⟨by rw[HD.o];rfl,((Zk w (.cells #[.int .u8 (48+(r:Int))] 5)).drew).trans (HB1.o.mono (by simp))⟩
   ·exact⟨by rw[HD.o];rfl,((Zk w (.cells #[.int .u8 (48+(r:Int))] 5)).drew).trans (HB1.o.mono (by simp))⟩
theorem itoa_min:Lib.itoa (-9223372036854775808)=[45,57,50,50,51,51,55,50,48,51,54,56,53,52,55,55,53,56,48,56]:=by
 simp[Lib.itoa,Lib.decDigits]
theorem Qx(n:Int)(h0 : -9223372036854775808≤n)(h1:n≤9223372036854775807):(Lib.itoa n).length≤21:=by
 unfold Lib.itoa
 split
 ·have:=Xh n.natAbs (by omega)
  simp;omega
 ·have:=Xh n.toNat (by omega)
  omega
theorem Jg(n:Int)(h0 : -9223372036854775808≤n)(h1:n≤9223372036854775807)(w:World) :
  Calls prog 73 #[.int .i64 n] w fun e w'=>e=.returned (.string (tx (Lib.itoa n)))∧Below w.1.size w w':=by
 by_cases hn:n<0
 ·have hn':decide (n<0)=true:=by simpa using hn
  by_cases hm:n = -9223372036854775808
  ·subst hm;go_enter func73,ntmps73;go_wp2;go_ret;exact⟨by rw[itoa_min];rfl,Below.refl _ _⟩
  ·have hm':(n == -9223372036854775808)=false:=by simpa using hm
   obtain⟨u,hu⟩:∃u:Nat,-n=(u:Int):=⟨(-n).toNat,by omega⟩;have hc:=num_nat u w (by omega)
   have hl:(tx (Lib.decDigits u)).size≤20:=by rw[Ki];exact Xh u (by omega)
   have hw:wrap64 (u:Int)=(u:Int):=by unfold wrap64;omega
   have hD:tx (Lib.itoa n)=tx [45]++tx (Lib.decDigits u):=by
    rw[tx_app,show n = -(u:Int)by omega,Lib.itoa_neg u (by omega)];rfl
   generalize tx (Lib.decDigits u)=s at *
   have HD:=Zd hD;have HC:=Zd hc;clear hD hc hm hn h0;go_enter func73,ntmps73;go_wp2_with fail;refine HC.o.mono ?_;rintro e w1 ⟨rfl,hb1⟩;go_wp2;go_ret;exact⟨by rw[HD.o];rfl,hb1⟩
 ·obtain⟨u,rfl⟩:∃u:Nat,n=(u:Int):=⟨n.toNat,by omega⟩;rw[Lib.itoa_nonneg];exact num_nat u w (by omega)
shelf_lay LaysM.n171 Nm 171 at Tryz as Tryz.laysItoa
abbrev PowTab(w:World):Prop:=Lib.TabIs prog w "internal/strconv.uint64pow10" .u64 Lib.pow10Tab
theorem Vv(n:Int)(h0 : -9223372036854775808≤n)(h1:n≤9223372036854775807)(w:World)(ht:PowTab w) :
  Calls prog 29 #[.int .i64 n] w fun e w'=>e=.returned (.string (tx (Lib.itoa n)))∧Below w.1.size w w' :=
 (Any.strconv_Itoa Tryz.laysItoa n h0 h1 w ht).mono fun _ _ ⟨he,k,os,hw⟩=>⟨he,by rw[hw];exact Lib.below_grow _ w (Nat.le_refl _) k os⟩
theorem PowTab.later{w w':World}(h:PowTab w)(hb:Below w.1.size w w'):PowTab w':=Lib.tabBelow_of_tabIs h w' hb
shelf_lay Lays.n156 Nm 156 at Tryz as Tryz.laysJoin
theorem extraJoin:Builder.Extra prog Tryz.laysJoin_ren where
 sizeBuilder:=by kernel_rfl
 liesBuilder:=by kernel_rfl
 t5:=underlying5
 a5:=Tryz.isAgg5
 z5:=Tryz.sizeOf5
 v5:=Tryz.zeroValue5
 infoByte:=by kernel_rfl
 cellsByte:=by kernel_rfl
 sizeByte:=by kernel_rfl
 neB5:=by decide
def kS:Kind ByteArray:=⟨9,62,1,fun z=>[.string z],fun _=>rfl,fun a v h=>by simp at h;subst h;rfl⟩
theorem Tryz.infoS:(prog.info? 9).map (fun i=>(i.zero,i.size,i.bytes))=some (some (.string ⟨#[]⟩),1,16):=by kernel_rfl
theorem kS_ok:kS.Ok:=Pd (K:=kS) underlying62 Tryz.infoS rfl (by decide) (by decide)
theorem Ks{n:Nat}{W:World}{ao:Option Addr}{zs:List ByteArray}(h:kS.In n W ao zs){k:Nat}(hk:k<zs.length) :
  ∃b off,ao=some ⟨b,off,none⟩∧b<n∧∀j,j<zs.length→W.cell? ⟨b,off+j,none⟩=some (.string (el zs j)):=by
 obtain⟨b,off,e,hb,hc⟩:=h.pos hk;refine⟨b,off,e,hb,fun j hj=>?_⟩;have:=hc j hj 0 (by decide)
 simpa[kS]using this
theorem texts_mk{n:Nat}{W:World}{b off:Nat}{zs:List ByteArray}(hb:b<n)(h:∀j,j<zs.length→W.cell? ⟨b,off+j,none⟩=some (.string (el zs j))):kS.In n W (some ⟨b,off,none⟩) zs:=by
 refine .inr ⟨b,off,rfl,hb,fun j hj i hi=>?_⟩;have e:i=0:=by have:i<1:=hi;omega
 subst e
 simp[kS,h j hj]
theorem Vp{n:Nat}{W:World}{p:Nat}{z:ByteArray}(hp:p<n)(h:W.cell? ⟨p,0,none⟩=some (.string z)):kS.In n W (some ⟨p,0,none⟩) [z]:=by
 refine texts_mk hp fun j hj=>?_
 simp at hj;subst hj
 simpa[Kd]using h
def Wv(xs:List ByteArray)(sep:ByteArray):ByteArray:=⟨(Lib.join (xs.map (·.data.toList)) sep.data.toList).toArray⟩
theorem Lx(ao:Option Addr)(c:Nat)(xs:List ByteArray)(sep:ByteArray)(w:World)(hz:kS.In w.1.size w ao xs)(hN:xs.length≤4194304)(hcap:xs.length≤c)(hlen:(Wv xs sep).size≤140737488355328) :
  Calls prog 31 #[.slice ao xs.length c,.string sep] w fun e w'=>e=.returned (.string (Wv xs sep))∧Below w.1.size w w':=by
 by_cases h0:0<xs.length
 ·obtain⟨b,off,rfl,hb,hc⟩:=Ks hz h0;refine(Any.strings_Join Tryz.laysJoin extraJoin b off c xs sep w (fun j x hx=>?_) hb (by omega) hcap (by simpa[Wv,ByteArray.size]using hlen)).mono fun _ _ h=>h
  have hj:j<xs.length:=by rcases Nat.lt_or_ge j xs.length with h|h;exact h;rw[List.getElem?_eq_none h]at hx;cases hx
  rw[hc j hj,el,hx];rfl
 ·have e:xs=[]:=List.length_eq_zero_iff.1 (by omega);subst e;exact(Any.strings_Join_none Tryz.laysJoin extraJoin ao c sep w).mono fun _ _ h=>⟨h.1,by rw[h.2];exact Below.refl _ _⟩
def Yx(l:List Int):List ByteArray:=l.map fun z=>tx (Lib.itoa z)
def Qm(sep:ByteArray)(l:List Int):ByteArray:=Wv (Yx l) sep
theorem Gj(l:List Int):(Yx l).length=l.length:=by simp[Yx]
theorem Tg{l:List Int}{k:Nat}(h:k<l.length):Yx (l.take (k+1))=Yx (l.take k)++[tx (Lib.itoa (el l k))]:=by rw[Yx,Zy h];simp[Yx]
theorem Hy(sep:List UInt8)(c:Nat):∀r:List (List UInt8),(∀x∈r,x.length≤c)→(Lib.joinTail sep r).length≤r.length*(sep.length+c)
 | [],_=>by simp[Lib.joinTail]
 |x::r,h=>by
  have ih:=Hy sep c r fun y hy=>h y (by simp[hy])
  have hx:=h x (by simp);simp only[Lib.joinTail,List.map_cons,List.flatten_cons,List.length_append,List.length_cons]at ih ⊢;rw[Nat.succ_mul];omega
theorem join_len(sep:List UInt8)(c:Nat)(r:List (List UInt8))(h:∀x∈r,x.length≤c):(Lib.join r sep).length≤(r.length+1)*(sep.length+c):=by
 cases r with
 |nil=>simp[Lib.join_nil]
 |cons x r =>
  have h1:=Hy sep c r fun y hy=>h y (by simp[hy])
  have hx:=h x (by simp);rw[Lib.join_cons,List.length_append,List.length_cons,Nat.succ_mul,Nat.succ_mul];omega
def Xi(l:List Int):Prop:=∀x∈l,-9223372036854775808≤x∧x≤9223372036854775807
theorem Td{l:List Int}(h:Xi l)(sep:ByteArray):(Qm sep l).size≤(l.length+1)*(sep.size+21):=by
 have:=join_len sep.data.toList 21 ((Yx l).map (·.data.toList)) fun x hx=>by
  simp only[Yx,List.map_map,List.mem_map]at hx;obtain⟨z,hz,rfl⟩:=hx;have:=Qx z (h z hz).1 (h z hz).2
  simpa[tx]using this
 rw[List.length_map,Gj,Array.length_toList]at this
 show(Lib.join ((Yx l).map (·.data.toList)) sep.data.toList).toArray.size≤_
 rw[List.size_toArray];exact this
theorem Wm(ao:Option Addr)(cap:Nat)(zs:List Int)(sep:ByteArray)(w:World)(hl:zs.length≤1048576)(hs:sep.size≤100)(h64:Xi zs)(hz:kI.In w.1.size w ao zs)(hT:PowTab w) :
  Calls prog 67 #[.slice ao zs.length cap,.string sep] w fun e w'=>e=.returned (.string (Qm sep zs))∧Below w.1.size w w':=by
 have HS:=Zd (Td h64 sep);have hcon:=fun(b:Option Addr) c W h1 h2=>Lx b c (Yx zs) sep W h1 (by rw[Gj];omega) h2 (by
  have h1:=HS.o;have h2:(zs.length+1)*(sep.size+21)≤1048577*121:=Nat.mul_le_mul (by omega) (by omega);have h3:(Wv (Yx zs) sep).size=(Qm sep zs).size:=rfl
  omega)
 have HC:=Zd hcon;have HT:=Zd hT;have H64:=Zd h64;clear hcon hT h64 HS;go_enter func67,ntmps67;go_wp2
 go_loopw [5,10] (fun u i wr=>∃(k:Nat)(v:Value),v=u∧k≤zs.length∧i=.int .i64 k∧Zi (kS.Own w.1.size wr v (Yx (zs.take k)))∧Below w.1.size w wr) (fun _ i _=>zs.length-(intOf i).toNat)
 case atStart=>exact⟨0,_,rfl,Nat.zero_le _,rfl,Kind.Own.nil _ _ _,Below.refl _ _⟩
 case round =>
  obtain⟨k,v,rfl,hk,rfl,hO,hB⟩:=hrel
  by_cases hlt:k<zs.length
  ·obtain⟨b,off,rfl,hb,hc⟩:=Zo hz hlt;have d1:=(hB.cell (p:=⟨b,off+k,none⟩) hb).trans (hc k hlt);have h6:=H64.o _ (Zl hlt);have hit:=Vv (el zs k) h6.1 h6.2 wr (HT.o.later hB);have HSC:=Zd (Tg hlt);have hll:(Yx (zs.take k)).length+1≤4194304:=by rw[Gj,List.length_take];omega
   generalize tx (Lib.itoa (el zs k))=t at hit HSC
   generalize el zs k=x at d1 hit
   have HIT:=Zd hit;clear hit hc h6;go_wp2_with fail;refine HIT.o.mono ?_;rintro e w1 ⟨rfl,hb1⟩;have hB1:=hB.trans (hb1.mono hB.size);have HA:Zi (kS.Own w.1.size (w1.alloc (.cells #[.string t] 9)) v (Yx (zs.take k))):=(hO.o.below hb1).below (Zk _ _);have HN:Zi (kS.In (w1.1.size+1) (w1.alloc (.cells #[.string t] 9)) (some ⟨w1.1.size,0,none⟩) [t]):=Vp (by omega) (by simp);have hBa:Below w.1.size w (w1.alloc (.cells #[.string t] 9)):=Zx hB1 _;have hs1:=hB1.size;clear hb1 hO HIT;go_wp2_with (at_builtin;refine Kind.app kS_ok (w1.alloc (.cells #[.string t] 9)) rfl (.tmp 14) (.tmp 17) rfl w.1.size v (Yx (zs.take k)) rfl HA.o (by simp;omega) (some ⟨w1.1.size,0,none⟩) [t] 1 1 rfl rfl (by simp) _ HN.o hll ?_;intro v' w' hO' hB' hG' hn';have hB2:Below w.1.size w w':=hBa.trans (hB'.mono (by omega));have HO':Zi (kS.Own w.1.size w' v' (Yx (zs.take (k+1)))):=(by rw[Zi,HSC.o];exact hO');clear hO' hB' hG' hn');go_roundw
   case rel=>exact⟨k+1,v',rfl,by omega,by go_num,HO',hB2⟩
   case measure=>simp[intOf];omega
  ·obtain rfl:k=zs.length:=by omega
   rw[List.take_length]at hO;obtain⟨qo,qc,rfl,_,hF⟩:=hO.o.fresh;have hcap:=hF.cap;have hcal:=HC.o qo qc wr hF.in hcap;clear hF hO hcap HC;have HCAL:=Zd hcal;clear hcal;go_wp2_with fail;refine HCAL.o.mono ?_;rintro e w1 ⟨rfl,hb1⟩;go_wp2;go_ret;exact⟨rfl,hB.trans (hb1.mono hB.size)⟩
def Rx(nx:List Int):ByteArray:=if nx.length=0 then⟨#[45]⟩else Qm ⟨#[44]⟩ nx
end Go.Proofs.YtdacedbfnlkghaaGreatDoor