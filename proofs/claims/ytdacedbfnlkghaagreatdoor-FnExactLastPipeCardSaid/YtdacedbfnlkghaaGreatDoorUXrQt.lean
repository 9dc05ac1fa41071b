/- A row of its own that lies between two blocks; draws among numbers. Rows of things that have rows of their own. Nodes and rows of them: sizes, copies, comparisons. slices.IndexFunc and ContainsFunc, whatever function they are handed. Ints of which none is twice there; rows of ints copied. Names, on both sides. A region that draws its order, whose operations only read and whose callees read and No conditions but those written. -/
import Derived.Test.YtdacedbfnlkghaaGreatDoorUYa
import Derived.Shelf.Abstract
import Derived.Laws.IdiomStrings
namespace Go.Proofs.YtdacedbfnlkghaaGreatDoor
set_option maxHeartbeats 4000000
set_option maxRecDepth 10000
open Go.RowKit Go.Proofs.Tryz
section
open Go.RowKit
theorem own_keep2{α:Type}{K:Kind α}{lo hi:Nat}{W W':World}{ao:Option Addr}{n c:Nat}{xs:List α}(h:K.Own lo W (.slice ao n c) xs)(hh:∀g o,ao=some ⟨g,o,none⟩→g<hi)(hk:∀k,lo≤k→k<hi→k<W.1.size→W'.heap[k]? = W.heap[k]?):K.Own lo W' (.slice ao n c) xs:=by
 obtain⟨h1,h2⟩:=h;refine⟨h1,?_⟩
 rcases h2 with h2|⟨g,cap,cur,hv,hg,hb,r⟩
 ·exact .inl h2
 ·have e:ao=some ⟨g,0,none⟩:=by simp at hv;exact hv.1
  exact .inr ⟨g,cap,cur,hv,hg,by rw[hk g hg (hh g 0 e) (Array.getElem?_eq_some_iff.1 hb).1];exact hb,r⟩
theorem own_hi{α:Type}{K:Kind α}{lo:Nat}{W:World}{ao:Option Addr}{n c:Nat}{xs:List α}(h:K.Own lo W (.slice ao n c) xs):∀g o,ao=some ⟨g,o,none⟩→g<W.1.size:=by
 intro g o e
 rcases h.2 with⟨h',_⟩|⟨g',cap,cur,hv,_,hb,_⟩
 ·rw[e]at h';simp at h'
 ·rw[e]at hv;simp at hv;obtain⟨⟨rfl,_⟩,_⟩:=hv
  exact(Array.getElem?_eq_some_iff.1 hb).1
section
variable {α:Type} {K:Kind α}
def Kind.RW(K:Kind α)(lo hi:Nat)(W:World)(ao:Option Addr)(c:Nat)(xs:List α):Prop:=K.Own lo W (.slice ao xs.length c) xs∧∀g o,ao=some ⟨g,o,none⟩→g<hi
variable {lo hi:Nat} {W W':World} {ao:Option Addr} {c:Nat} {xs:List α}
theorem Kind.RW.keep(h:K.RW lo hi W ao c xs)(hk:∀k,lo≤k→k<hi→k<W.1.size→W'.heap[k]? = W.heap[k]?):K.RW lo hi W' ao c xs:=⟨own_keep2 h.1 h.2 hk,h.2⟩
theorem Kind.RW.of(h:K.Own lo W (.slice ao xs.length c) xs):K.RW lo W.1.size W ao c xs:=⟨h,own_hi h⟩
theorem Kind.RW.nil:K.RW lo hi W none 0 []:=⟨Kind.Own.nil _ _ _,fun g o e=>by cases e⟩
theorem Kind.RW.cap(h:K.RW lo hi W ao c xs):xs.length≤c:=by
 obtain⟨go,qc,e,_,hF⟩:=h.1.fresh
 simp at e;obtain⟨rfl,rfl⟩:=e;exact hF.cap
theorem Kind.Own.as{lo:Nat}{v:Value}(h:K.Own lo W v xs):∃ao c,v=.slice ao xs.length c∧K.Own lo W (.slice ao xs.length c) xs:=by
 obtain⟨ao,c,rfl,_,_⟩:=h.fresh;exact⟨ao,c,rfl,h⟩
end
end
section
open Go.RowKit
def rowOwn{α:Type}(o:Option Addr)(xs:List α)(b:Nat):Prop:=0<xs.length∧o=some ⟨b,0,none⟩
section
variable {α:Type} {K:Kind α}
theorem Kind.Fresh.keepB{lo hi:Nat}{W W':World}{o:Option Addr}{c:Nat}{xs:List α}(h:K.Fresh lo hi W o c xs)(hk:∀b,rowOwn o xs b→W'.heap[b]? = W.heap[b]?):K.Fresh lo hi W' o c xs:=by
 rcases h with h|⟨g,e,hg,ho⟩
 ·exact .inl h
 ·by_cases h0:0<xs.length
  ·exact .inr ⟨g,e,hg,Ji ho (hk g ⟨h0,e⟩)⟩
  ·exact .inl (List.length_eq_zero_iff.1 (by omega))
theorem Kind.Fresh.lt{lo hi:Nat}{W:World}{o:Option Addr}{c:Nat}{xs:List α}(h:K.Fresh lo hi W o c xs){b:Nat}(hb:rowOwn o xs b):lo≤b∧b<hi∧b<W.1.size∧∃cur,W.heap[b]? = some (.cells cur K.ty (0,0)):=by
 obtain⟨h0,e⟩:=hb
 rcases h with h|⟨g,e2,hg,ho⟩
 ·rw[h]at h0;simp at h0
 ·rw[e2]at e;simp at e;subst e
  exact⟨(Jt ho).1,hg,(Jt ho).2,Rz ho⟩
end
structure Deep(A:Type) where
 K:Kind A
 In:Nat→World→A→Prop
 Fr:Nat→Nat→World→A→Prop
 own:A→Nat→Prop
structure Deep.Ok{A:Type} [Inhabited A] (D:Deep A):Prop where
 kok:D.K.Ok
 below:∀{n:Nat}{W W':World}{a:A},D.In n W a→Below n W W'→D.In n W' a
 up:∀{n m:Nat}{W:World}{a:A},D.In n W a→n≤m→D.In m W a
 fin:∀{lo hi:Nat}{W:World}{a:A},D.Fr lo hi W a→D.In W.1.size W a
 keep:∀{lo hi:Nat}{W W':World}{a:A},D.Fr lo hi W a→(∀b,D.own a b→W'.heap[b]? = W.heap[b]?)→D.Fr lo hi W' a
 wide:∀{lo hi lo' hi':Nat}{W:World}{a:A},D.Fr lo hi W a→lo'≤lo→hi≤hi'→D.Fr lo' hi' W a
 lt:∀{lo hi:Nat}{W:World}{a:A}{b:Nat},D.Fr lo hi W a→D.own a b→lo≤b∧b<hi∧b<W.1.size∧∃cur t,W.heap[b]? = some (.cells cur t (0,0))∧t≠D.K.ty
section
variable {A:Type} [Inhabited A] {D:Deep A}
def DIn(D:Deep A)(n:Nat)(W:World)(ao:Option Addr)(ts:List A):Prop:=D.K.In n W ao ts∧∀j,j<ts.length→D.In n W (el ts j)
theorem DIn.below(hD:D.Ok){n:Nat}{W W':World}{ao:Option Addr}{ts:List A}(h:DIn D n W ao ts)(hb:Below n W W'):DIn D n W' ao ts:=⟨h.1.below hb,fun j hj=>hD.below (h.2 j hj) hb⟩
theorem DIn.up(hD:D.Ok){n m:Nat}{W:World}{ao:Option Addr}{ts:List A}(h:DIn D n W ao ts)(hm:n≤m):DIn D m W ao ts:=⟨h.1.up hm,fun j hj=>hD.up (h.2 j hj) hm⟩
theorem DIn.later(hD:D.Ok){W W':World}{ao:Option Addr}{ts:List A}(h:DIn D W.1.size W ao ts)(hb:Below W.1.size W W'):DIn D W'.1.size W' ao ts:=(h.below hD hb).up hD hb.size
def Parted(D:Deep A)(ts:List A):Prop:=∀i j,i<j→j<ts.length→∀b,D.own (el ts i) b→¬D.own (el ts j) b
def DFr(D:Deep A)(lo hi:Nat)(W:World)(ao:Option Addr)(c:Nat)(ts:List A):Prop:=D.K.Fresh lo hi W ao c ts∧(∀j,j<ts.length→D.Fr lo hi W (el ts j))∧Parted D ts
variable {lo hi:Nat} {W W':World} {ao:Option Addr} {c:Nat} {ts:List A}
theorem DFr.in(hD:D.Ok)(h:DFr D lo hi W ao c ts):DIn D W.1.size W ao ts:=⟨h.1.in,fun j hj=>hD.fin (h.2.1 j hj)⟩
theorem DFr.keep(hD:D.Ok)(h:DFr D lo hi W ao c ts)(hk:∀k,lo≤k→k<hi→k<W.1.size→W'.heap[k]? = W.heap[k]?):DFr D lo hi W' ao c ts :=
 ⟨h.1.keep hk,fun j hj=>hD.keep (h.2.1 j hj) fun b hb=>by obtain⟨h1,h2,h3,_⟩:=hD.lt (h.2.1 j hj) hb;exact hk b h1 h2 h3,h.2.2⟩
theorem DFr.wide(hD:D.Ok){lo' hi':Nat}(h:DFr D lo hi W ao c ts)(h1:lo'≤lo)(h2:hi≤hi'):DFr D lo' hi' W ao c ts:=⟨h.1.wide h1 h2,fun j hj=>hD.wide (h.2.1 j hj) h1 h2,h.2.2⟩
theorem DFr.nil(lo hi:Nat)(W:World)(ao:Option Addr)(c:Nat):DFr D lo hi W ao c []:=⟨.inl rfl,fun j hj=>by simp at hj,fun i j _ hj=>by simp at hj⟩
theorem Rm{α:Type} [Inhabited α] {l:List α} {x:α} {k:Nat} (hl:l.length=k):el (l++[x]) k=x:=by
 have:=Hb l [x] 0;rw[hl,Nat.add_zero,Kd]at this;exact this
end
end
theorem Kind.Fresh.setOff{α:Type}{K:Kind α}{lo hi:Nat}{W:World}{qo:Option Addr}{qc:Nat}{q:List α}(h:K.Fresh lo hi W qo qc q){a:Addr}(ha:a.block<lo∨hi≤a.block)(u:Value):K.Fresh lo hi (W.setCell a u) qo qc q:=h.keep fun k h1 h2 _=>Below.heap_setCell W a u k (by omega)
def InNode(n:Nat)(W:World)(nxo:Option Addr)(nx:List (Int)):Prop:=kI.In n W nxo nx
def FrNode(lo hi:Nat)(W:World)(nxo:Option Addr)(nxc:Nat)(nx:List (Int)):Prop:=kI.Fresh lo hi W nxo nxc nx
theorem InNode.below{n:Nat}{W W':World}{nxo:Option Addr}{nx:List (Int)}(h:InNode n W nxo nx)(hb:Below n W W'):InNode n W' nxo nx:=Kind.In.below h hb
theorem FrNode.in{lo hi:Nat}{W:World}{nxo:Option Addr}{nxc:Nat}{nx:List (Int)}(h:FrNode lo hi W nxo nxc nx):InNode W.1.size W nxo nx:=Kind.Fresh.in h
theorem FrNode.wide{lo hi lo' hi':Nat}{W:World}{nxo:Option Addr}{nxc:Nat}{nx:List (Int)}(h:FrNode lo hi W nxo nxc nx)(h1:lo'≤lo)(h2:hi≤hi'):FrNode lo' hi' W nxo nxc nx:=Kind.Fresh.wide h h1 h2
abbrev LNode:=ByteArray×Int×Int×Int×Int×(Option Addr×Nat×List (Int))
abbrev PNode:=ByteArray×Int×Int×Int×Int×List (Int)
def Zz(a:LNode):PNode:=(a.1,a.2.1,a.2.2.1,a.2.2.2.1,a.2.2.2.2.1,a.2.2.2.2.2.2.2)
def Pf:Kind LNode:=⟨27,39,6,fun t=>[.string t.1,.int .i64 t.2.1,.int .i64 t.2.2.1,.int .i64 t.2.2.2.1,.int .i64 t.2.2.2.2.1,.slice t.2.2.2.2.2.1 t.2.2.2.2.2.2.2.length t.2.2.2.2.2.2.1],fun _=>rfl,fun a v h=>by simp at h;rcases h with rfl|rfl|rfl|rfl|rfl|rfl <;> rfl⟩
theorem Tryz.info27:(prog.info? 27).map (fun i=>(i.zero,i.size,i.bytes))=some (some (.agg #[.string ⟨#[]⟩,.int .i64 0,.int .i64 0,.int .i64 0,.int .i64 0,.slice none 0 0]),6,72):=by kernel_rfl
theorem hNode_ok:Pf.Ok:=Pd (K:=Pf) underlying39 Tryz.info27 rfl (by decide) (by decide)
theorem Qw{n:Nat}{W:World}{ao:Option Addr}{ts:List LNode}(h:Pf.In n W ao ts){k:Nat}(hk:k<ts.length) :
  ∃b off,ao=some ⟨b,off,none⟩∧b<n∧∀j,j<ts.length→W.cell? ⟨b,off+j*6,none⟩=some (.string (el ts j).1)∧W.cell? ⟨b,off+j*6+1,none⟩=some (.int .i64 (el ts j).2.1)∧W.cell? ⟨b,off+j*6+2,none⟩=some (.int .i64 (el ts j).2.2.1)∧W.cell? ⟨b,off+j*6+3,none⟩=some (.int .i64 (el ts j).2.2.2.1)∧W.cell? ⟨b,off+j*6+4,none⟩=some (.int .i64 (el ts j).2.2.2.2.1)∧W.cell? ⟨b,off+j*6+5,none⟩=some (.slice (el ts j).2.2.2.2.2.1 (el ts j).2.2.2.2.2.2.2.length (el ts j).2.2.2.2.2.2.1):=by
 obtain⟨b,off,e,hb,hc⟩:=h.pos hk;exact⟨b,off,e,hb,fun j hj=>⟨hc j hj 0 (by decide),hc j hj 1 (by decide),hc j hj 2 (by decide),hc j hj 3 (by decide),hc j hj 4 (by decide),hc j hj 5 (by decide)⟩⟩
def Ja:Deep LNode:=⟨Pf,fun n W a=>InNode n W (a.2.2.2.2.2).1 (a.2.2.2.2.2).2.2,fun lo hi W a=>FrNode lo hi W (a.2.2.2.2.2).1 (a.2.2.2.2.2).2.1 (a.2.2.2.2.2).2.2,fun a b=>rowOwn (a.2.2.2.2.2).1 (a.2.2.2.2.2).2.2 b⟩
theorem InNode.up{n m:Nat}{W:World}{nxo:Option Addr}{nx:List (Int)}(h:InNode n W nxo nx)(hm:n≤m):InNode m W nxo nx:=Kind.In.up h hm
theorem Zf:Ja.Ok where
 kok:=hNode_ok
 below:=fun h hb=>InNode.below h hb
 up:=fun h hm=>InNode.up h hm
 fin:=fun h=>FrNode.in h
 keep:=fun{lo hi W W' a} h hk=>Kind.Fresh.keepB h fun b hb=>hk b (hb)
 wide:=fun h h1 h2=>FrNode.wide h h1 h2
 lt:=fun{lo hi W a b} h hb=>by
  obtain⟨h1,h2,h3,cur,h4⟩:=Kind.Fresh.lt (h:kI.Fresh _ _ _ _ _ _) hb;exact⟨h1,h2,h3,cur,_,h4,by decide⟩
def fidx{α:Type}(p:α→Bool)(l:List α):Int:=match l.findIdx? p with|some k=>(k:Int)|none => -1
theorem fidx_hit{α:Type} [Inhabited α] {p:α→Bool} {l:List α} {k:Nat} (hk:k<l.length) (h:p (el l k)=true) (hn:∀j,j<k→p (el l j)=false):fidx p l=(k:Int):=by
 have:l.findIdx? p=some k:=by
  rw[List.findIdx?_eq_some_iff_getElem];refine⟨hk,by rw[←Km hk];exact h,fun j hj=>?_⟩;have:=hn j hj;rw[Km (by omega)]at this
  simp[this]
 rw[fidx,this]
theorem fidx_no{α:Type} [Inhabited α] {p:α→Bool} {l:List α} (h:∀j,j<l.length→p (el l j)=false):fidx p l = -1:=by
 have:l.findIdx? p=none:=by
  rw[List.findIdx?_eq_none_iff];intro x hx;obtain⟨j,hj,rfl⟩:=Gx hx;exact h j hj
 rw[fidx,this]
theorem fidx_any{α:Type}(p:α→Bool)(l:List α):decide (0≤fidx p l)=l.any p:=by
 unfold fidx
 cases h:l.findIdx? p with
 |none =>
  rw[List.findIdx?_eq_none_iff]at h;have:l.any p=false:=by rw[List.any_eq_false];intro x hx;simp[h x hx]
  simp[this]
 |some k =>
  rw[List.findIdx?_eq_some_iff_getElem]at h;obtain⟨h1,h2,_⟩:=h;have:l.any p=true:=by rw[List.any_eq_true];exact⟨_,List.getElem_mem h1,h2⟩
  simp[this]
theorem Wp(g:Nat)(cb:Array Value)(eg:∀args w,(callFunc g args).run prog w=.ok (.enter g args) w)(ao:Option Addr)(cap:Nat)(zs:List Int)(p:Int→Bool)(w:World)(hl:zs.length≤1048576)(hz:kI.In w.1.size w ao zs)(hC:∀x W,x∈zs→Below w.1.size w W→Calls prog g (#[.int .i64 x]++cb) W fun e w'=>e=.returned (.bool (p x))∧Below W.1.size W w') :
  Calls prog 95 #[.slice ao zs.length cap,.func (.func g) #[] cb] w fun e w'=>e=.returned (.int .i64 (fidx p zs))∧Below w.1.size w w':=by
 have HC:=Zd hC;clear hC;go_enter func95,ntmps95;go_wp2
 go_loopw [8] (fun i wr=>∃k:Nat,i=.int .i64 (k:Int)∧k≤zs.length∧Zi (∀j,j<k→p (el zs j)=false)∧Below w.1.size w wr) (fun i _=>zs.length-(intOf i).toNat)
 case atStart=>exact⟨0,rfl,Nat.zero_le _,fun j hj=>by omega,Below.refl _ _⟩
 case round =>
  obtain⟨k,rfl,hk,hN,hB⟩:=hrel
  by_cases hlt:k<zs.length
  ·obtain⟨b,off,rfl,hb,hc⟩:=Zo hz hlt;have d1:=(hB.cell (p:=⟨b,off+k,none⟩) hb).trans (hc k hlt);have hm:=Zl hlt;have hcall:=fun W hW=>HC.o (el zs k) W hm hW
   have HE:Zi (∀y,p (el zs k)=y→p (el zs k)=y):=fun _ h=>h
   obtain⟨y,hy⟩:∃y,p (el zs k)=y:=⟨_,rfl⟩;have HY:=Zd hy;rw[hy]at hcall;obtain⟨x,ex⟩:=nmd (el zs k);rw[←ex]at d1 hcall;clear ex hc hm hy HE
   skip
   skip
   cases y
   ·go_wp2_with (go_at_fn g;refine(hcall _ hB).mono ?_;rintro e w1 ⟨rfl,hb1⟩;have hB1:Below w.1.size w w1:=hB.trans (hb1.mono hB.size);clear hb1);go_roundw
    case rel =>
     refine⟨k+1,by go_num,by omega,fun j hj=>?_,hB1⟩
     rcases Nat.lt_succ_iff_lt_or_eq.1 hj with h|rfl
     ·exact hN.o j h
     ·exact HY.o
    case measure=>simp[intOf];omega
   ·go_wp2_with (go_at_fn g;refine(hcall _ hB).mono ?_;rintro e w1 ⟨rfl,hb1⟩;have hB1:Below w.1.size w w1:=hB.trans (hb1.mono hB.size);clear hb1);go_ret;exact⟨Xc (fidx_hit hlt HY.o hN.o).symm,hB1⟩
  ·obtain rfl:k=zs.length:=by omega
   go_wp2;go_ret;exact⟨Xc (fidx_no hN.o).symm,hB⟩
theorem Kg(g:Nat)(cb:Array Value)(eg:∀args w,(callFunc g args).run prog w=.ok (.enter g args) w)(ao:Option Addr)(cap:Nat)(zs:List Int)(p:Int→Bool)(w:World)(hl:zs.length≤1048576)(hz:kI.In w.1.size w ao zs)(hC:∀x W,x∈zs→Below w.1.size w W→Calls prog g (#[.int .i64 x]++cb) W fun e w'=>e=.returned (.bool (p x))∧Below W.1.size W w') :
  Calls prog 66 #[.slice ao zs.length cap,.func (.func g) #[] cb] w fun e w'=>e=.returned (.bool (zs.any p))∧Below w.1.size w w':=by
 rw[←fidx_any];have hcon:=Wp g cb eg ao cap zs p w hl hz hC;clear hC hz;go_enter func66,ntmps66;go_wp2_with (go_at_call 95;refine hcon.mono ?_;rintro e w1 ⟨rfl,hb1⟩);go_ret;exact⟨rfl,hb1⟩
def nodeV(x:LNode):Value:=.agg #[.string x.1,.int .i64 x.2.1,.int .i64 x.2.2.1,.int .i64 x.2.2.2.1,.int .i64 x.2.2.2.2.1,.slice x.2.2.2.2.2.1 x.2.2.2.2.2.2.2.length x.2.2.2.2.2.2.1]
theorem Fq(g:Nat)(cb:Array Value)(eg:∀args w,(callFunc g args).run prog w=.ok (.enter g args) w)(ao:Option Addr)(cap:Nat)(zs:List LNode)(p:LNode→Bool)(w:World)(hl:zs.length≤1048576)(hz:Pf.In w.1.size w ao zs)(hC:∀x W,x∈zs→Below w.1.size w W→Calls prog g (#[nodeV x]++cb) W fun e w'=>e=.returned (.bool (p x))∧Below W.1.size W w') :
  Calls prog 221 #[.slice ao zs.length cap,.func (.func g) #[] cb] w fun e w'=>e=.returned (.int .i64 (fidx p zs))∧Below w.1.size w w':=by
 have HC:=Zd hC;clear hC;go_enter func221,ntmps221;go_wp2
 go_loopw [8] (fun i wr=>∃k:Nat,i=.int .i64 (k:Int)∧k≤zs.length∧Zi (∀j,j<k→p (el zs j)=false)∧Below w.1.size w wr) (fun i _=>zs.length-(intOf i).toNat)
 case atStart=>exact⟨0,rfl,Nat.zero_le _,fun j hj=>by omega,Below.refl _ _⟩
 case round =>
  obtain⟨k,rfl,hk,hN,hB⟩:=hrel
  by_cases hlt:k<zs.length
  ·obtain⟨b,off,rfl,hb,hc⟩:=Qw hz hlt;have d1:=(hB.cell (p:=⟨b,off+k*6,none⟩) hb).trans (hc k hlt).1;have d2:=(hB.cell (p:=⟨b,off+k*6+1,none⟩) hb).trans (hc k hlt).2.1;have d3:=(hB.cell (p:=⟨b,off+k*6+2,none⟩) hb).trans (hc k hlt).2.2.1;have d4:=(hB.cell (p:=⟨b,off+k*6+3,none⟩) hb).trans (hc k hlt).2.2.2.1;have d5:=(hB.cell (p:=⟨b,off+k*6+4,none⟩) hb).trans (hc k hlt).2.2.2.2.1;have d6:=(hB.cell (p:=⟨b,off+k*6+5,none⟩) hb).trans (hc k hlt).2.2.2.2.2;have hm:=Zl hlt;have hcall:=fun W hW=>HC.o (el zs k) W hm hW
   have HE:Zi (∀y,p (el zs k)=y→p (el zs k)=y):=fun _ h=>h
   obtain⟨y,hy⟩:∃y,p (el zs k)=y:=⟨_,rfl⟩;have HY:=Zd hy;rw[hy]at hcall;obtain⟨⟨nm,kd,sa,sb,cp,⟨nxo,nxc,nx⟩⟩,ex⟩:∃v,v=el zs k:=⟨_,rfl⟩;rw[←ex]at d1 d2 d3 d4 d5 d6 hcall;clear ex hc hm hy HE;dsimp only at d1 d2 d3 d4 d5 d6 hcall;simp only[nodeV]at hcall
   cases y
   ·go_wp2_with (go_at_fn g;refine(hcall _ hB).mono ?_;rintro e w1 ⟨rfl,hb1⟩;have hB1:Below w.1.size w w1:=hB.trans (hb1.mono hB.size);clear hb1);go_roundw
    case rel =>
     refine⟨k+1,by go_num,by omega,fun j hj=>?_,hB1⟩
     rcases Nat.lt_succ_iff_lt_or_eq.1 hj with h|rfl
     ·exact hN.o j h
     ·exact HY.o
    case measure=>simp[intOf];omega
   ·go_wp2_with (go_at_fn g;refine(hcall _ hB).mono ?_;rintro e w1 ⟨rfl,hb1⟩;have hB1:Below w.1.size w w1:=hB.trans (hb1.mono hB.size);clear hb1);go_ret;exact⟨Xc (fidx_hit hlt HY.o hN.o).symm,hB1⟩
  ·obtain rfl:k=zs.length:=by omega
   go_wp2;go_ret;exact⟨Xc (fidx_no hN.o).symm,hB⟩
theorem Yf(g:Nat)(cb:Array Value)(eg:∀args w,(callFunc g args).run prog w=.ok (.enter g args) w)(ao:Option Addr)(cap:Nat)(zs:List LNode)(p:LNode→Bool)(w:World)(hl:zs.length≤1048576)(hz:Pf.In w.1.size w ao zs)(hC:∀x W,x∈zs→Below w.1.size w W→Calls prog g (#[nodeV x]++cb) W fun e w'=>e=.returned (.bool (p x))∧Below W.1.size W w') :
  Calls prog 198 #[.slice ao zs.length cap,.func (.func g) #[] cb] w fun e w'=>e=.returned (.bool (zs.any p))∧Below w.1.size w w':=by
 rw[←fidx_any];have hcon:=Fq g cb eg ao cap zs p w hl hz hC;clear hC hz;go_enter func198,ntmps198;go_wp2_with (go_at_call 221;refine hcon.mono ?_;rintro e w1 ⟨rfl,hb1⟩);go_ret;exact⟨rfl,hb1⟩
def Dm(q:List Int):Bool:=decide q.Nodup
theorem Nz{q:List Int}{k:Nat}(hk:k<q.length)(h:q.Nodup):el q k∉q.take k:=by
 have h2:=h;rw[←List.take_append_drop k q,List.nodup_append]at h2;intro hm;refine h2.2.2 _ hm _ ?_ rfl;rw[Km hk,List.drop_eq_getElem_cons hk];exact List.mem_cons_self
theorem Fm{q:List Int}{k:Nat}(hk:k<q.length)(h:(q.take k).Nodup)(hn:el q k∉q.take k):(q.take (k+1)).Nodup:=by
 rw[Zy hk,List.nodup_append];exact⟨h,by simp,fun a ha b hb e=>hn (by simp at hb;rw[←hb,←e];exact ha)⟩
theorem onceB_no{q:List Int}(k:Nat)(hk:k<q.length)(h:Wr (q.take k) (el q k)=true):Dm q=false:=by
 simp only[Dm,decide_eq_false_iff_not];intro hn
 exact Nz hk hn (by simpa[Wr]using h)
theorem onceB_yes{q:List Int}(h:(q.take q.length).Nodup):Dm q=true:=by
 rw[List.take_length]at h;simpa[Dm]using h
theorem Br(n₀:Nat)(ao:Option Addr)(len cap:Nat)(zs:List Int)(n:Int)(w:World)(b:Bool)(hlen:zs.length=len)(hl:zs.length≤1048576)(hz:kI.In n₀ w ao zs)(hb:Wr zs n=b) :
  Calls prog 200 #[.slice ao len cap,.int .i64 n] w fun e w'=>e=.returned (.bool b)∧w'=w:=by
 subst hlen;exact Ux n₀ ao cap zs n w b hl hz hb
theorem noneTwice_is(n₀:Nat)(ao:Option Addr)(cap:Nat)(q:List Int)(w:World)(x:Bool)(hl:q.length≤1048576)(hc:q.length≤cap)(hz:kI.In n₀ w ao q)(hx:Dm q=x) :
  Calls prog 256 #[.slice ao q.length cap] w fun e w'=>e=.returned (.bool x)∧w'=w:=by
 have HX:Zi (Dm q=x):=hx;clear hx;go_enter func256,ntmps256;go_wp2
 go_loop [7] (fun i=>∃k:Nat,k≤q.length∧i=.int .i64 k∧Zi ((q.take k).Nodup)) (fun i=>q.length-(intOf i).toNat)
 case atStart=>exact⟨0,Nat.zero_le _,rfl,by simp[Zi]⟩
 case round =>
  obtain⟨k,hk,rfl,hno⟩:=hrel
  by_cases hlt:k<q.length
  ·have HZ:Zi (kI.In n₀ w ao q):=hz;obtain⟨b,off,rfl,hb,hcs⟩:=Zo hz hlt;have hck:=hcs k hlt;clear hcs hz;obtain⟨y,ey⟩:=nmd (el q k);rw[←ey]at hck;have HY:Zi (y=el q k):=ey;clear ey
   cases hm:Wr (q.take k) y
   ·have HM:Zi (Wr (q.take k) y=false):=hm;clear hm;go_wp2_with fail;refine(Br n₀ _ k cap (q.take k) y _ false (by simp;omega) (by simp;omega) (HZ.o.take k) HM.o).mono ?_;rintro e w1 ⟨rfl,rfl⟩;go_wp2;go_round
    case rel=>exact⟨k+1,by omega,by go_num,Fm hlt hno.o (by rw[←HY.o];simpa[Wr]using HM.o)⟩
    case measure=>simp[intOf];omega
   ·have HM:Zi (Wr (q.take k) y=true):=hm;have HF:Zi (x=false):=by rw[Zi,←HX.o];exact onceB_no k hlt (by rw[←HY.o];exact hm)
    clear hm;go_wp2_with fail;refine(Br n₀ _ k cap (q.take k) y _ true (by simp;omega) (by simp;omega) (HZ.o.take k) HM.o).mono ?_;rintro e w1 ⟨rfl,rfl⟩;go_wp2;go_ret;exact⟨Zp HF.o.symm,rfl⟩
  ·obtain rfl:k=q.length:=by omega
   have HF:Zi (x=true):=by rw[Zi,←HX.o];exact onceB_yes hno.o
   go_wp2;go_ret;exact⟨Zp HF.o.symm,rfl⟩
theorem l1Has_of(n₀:Nat)(ao:Option Addr)(len cap:Nat)(zs:List Int)(n:Int)(w:World)(b:Bool)(hlen:zs.length=len)(hl:zs.length≤1048576)(hz:kI.In n₀ w ao zs)(hb:Wr zs n=b) :
  Calls prog 174 #[.slice ao len cap,.int .i64 n] w fun e w'=>e=.returned (.bool b)∧w'=w:=by
 subst hlen;exact Lk n₀ ao cap zs n w b hl hz hb
theorem copyListI_any(ao:Option Addr)(cap:Nat)(ts:List (Int))(w:World)(hl:ts.length≤1048576)(hz:kI.In w.1.size w ao ts) :
  Calls prog 257 #[.slice ao ts.length cap] w fun e w'=>(∃t9,e=.returned (.slice t9 ts.length ts.length)∧kI.Fresh w.1.size w'.1.size w' t9 ts.length ts)∧Below w.1.size w w':=by
 by_cases h0:ts.length=0
 ·obtain rfl:ts=[]:=List.length_eq_zero_iff.1 h0;go_enter func257,ntmps257;go_wp2;go_ret;exact⟨⟨none,rfl,.inl rfl⟩,Below.refl _ _⟩
 ·have h0':((ts.length:Int)==0)=false:=(len1 h0).1;obtain⟨i0,z0,hi,hz0,hz1,hz2,hz3⟩:=Vq.info;have HZ:Zi (kI.In w.1.size w ao ts):=hz;have hby:i0.bytes*ts.length≤281474976710656:=by have:i0.bytes*ts.length≤4096*1048576:=Nat.mul_le_mul hz3 hl;omega
  clear hz;go_enter func257,ntmps257;go_wp2_with (at_make;refine wpList_make_full _ rfl _ _ kI.st rfl w.1.size kI.ty i0 z0 kI.sz Vq.und hi hz0 hz1 .i64 .i64 _ _ ts.length rfl rfl rfl rfl hby (by unfold maxLen;omega) (Nat.le_refl _) ?_;intro w1 hown hgrow;obtain⟨cur,hcur,hcl,_⟩:=Yk hown;have hB1:Below w.1.size w w1:=(Below.refl _ _).grown hgrow (Nat.le_refl _) (fun k e=>by cases e);obtain⟨w2,hrun,hh,hO⟩:=Uy (n:=ts.length) (cap:=cap) (ty:=3) Vq hcur hcl (Nat.le_refl _) HZ.o hB1;have hB2:Below w.1.size w w2:=hB1.trans (hO.below (Nat.le_refl _));have HH:=show Zi (_∧_)from And.intro hcl hh;unfold kI at hrun;dsimp only at hrun;clear hown hgrow hcur hh hO hcl);go_ret;have e:cur.drop (ts.length*kI.sz)=[]:=List.drop_eq_nil_of_le (by rw[HH.o.1];exact Nat.le_refl _);have hh:=HH.o.2;rw[e,List.append_nil]at hh;exact⟨⟨_,rfl,.inr ⟨w.1.size,rfl,(Array.getElem?_eq_some_iff.1 hh).1,Kt hh rfl (Nat.le_refl _) (by omega)⟩⟩,hB2⟩
theorem queueOfI_any(ao:Option Addr)(cap:Nat)(ts:List (Int))(w:World)(hl:ts.length≤1048576)(hz:kI.In w.1.size w ao ts) :
  Calls prog 234 #[.slice ao ts.length cap] w fun e w'=>(∃t9,e=.returned (.agg #[.slice t9 ts.length ts.length])∧kI.Fresh w.1.size w'.1.size w' t9 ts.length ts)∧Below w.1.size w w':=by
 go_enter func234,ntmps234;go_wp2_with fail;refine(copyListI_any ao cap ts _ hl (hz.later (Zk _ _))).mono ?_;rintro e w1 ⟨⟨go,rfl,hO⟩,hb1⟩;have hB1:=(Zk w (.cells #[.slice none 0 0] 268)).trans (hb1.mono (by simp));have c1:w1.cell? ⟨w.1.size,0,none⟩=some (.slice none 0 0):=(hb1.cell (p:=⟨w.1.size,0,none⟩) (by simp)).trans (by simp[go_sem]);have f1:w1.frozen? ⟨w.1.size,0,none⟩=false:=(hb1.frozen (p:=⟨w.1.size,0,none⟩) (by simp)).trans (by simp[go_sem]);have HO:Zi (kI.Fresh (w.1.size+1) w1.1.size w1 go ts.length ts):=by rw[World.size_alloc]at hO;exact hO
 clear hO hb1;go_wp2;refine bodyPost_ret (v:=.agg #[.slice go ts.length ts.length]) (by simp[results,results234,go_sem,c1]) rfl ⟨⟨go,rfl,?_⟩,?_⟩
 ·exact(HO.o.setBelow (by simp) _).wide (by omega) (by simp)
 ·exact hB1.setCell (p:=⟨w.1.size,0,none⟩) (Nat.le_refl _) _
def letB(x:Int):Bool:=(decide (97≤x) && decide (x≤122))||(decide (65≤x) && decide (x≤90))
def Yg(b:ByteArray)(k:Nat):Int:=if h:k<b.size then(b[k].toNat:Int)else 0
theorem Kh{b:ByteArray}{k:Nat}(h:k<b.size):Yg b k=(b[k].toNat:Int):=by rw[Yg,dif_pos h]
def Yv(b:ByteArray):Bool:=(decide (1≤b.size) && decide (b.size≤12)) && (List.range b.size).all fun k=>letB (Yg b k)
theorem Yp{b:ByteArray}{k:Nat}(h:k<b.size)(hk:letB (Yg b k)=false):Yv b=false:=by
 rw[Yv,Bool.and_eq_false_iff]
 right
 rw[List.all_eq_false];exact⟨k,List.mem_range.2 h,by simp[hk]⟩
theorem nameB_yes{b:ByteArray}(h1:1≤b.size)(h2:b.size≤12)(h:∀k,k<b.size→letB (Yg b k)=true):Yv b=true:=by
 rw[Yv,Bool.and_eq_true];refine⟨by simp[h1,h2],?_⟩;rw[List.all_eq_true];intro k hk;exact h k (List.mem_range.1 hk)
theorem Nq{b:ByteArray}(h:b.size<1∨12<b.size):Yv b=false:=by
 rw[Yv,Bool.and_eq_false_iff]
 left
 simp;omega
theorem Mo(b:ByteArray)(w:World)(hs:b.size≤9223372036854775807) :
  Calls prog 70 #[.string b] w fun e w'=>e=.returned (.bool (Yv b))∧w'=w:=by
 by_cases hn:b.size<1∨12<b.size
 ·rw[Nq hn];go_enter func70,ntmps70;go_wp2_with fail;refine(Zr b.size 1 12 _ false (by simp;omega)).mono ?_;rintro e w1 ⟨rfl,rfl⟩;go_wp2;go_ret;exact⟨rfl,rfl⟩
 ·go_enter func70,ntmps70;go_wp2_with fail;refine(Zr b.size 1 12 _ true (by simp;omega)).mono ?_;rintro e w1 ⟨rfl,rfl⟩;go_wp2
  go_loop [3] (fun i=>∃k:Nat,i=.int .i64 (k:Int)∧k≤b.size∧Zi (∀j,j<k→letB (Yg b j)=true)) (fun i=>b.size-(intOf i).toNat)
  case atStart=>exact⟨0,rfl,Nat.zero_le _,fun j hj=>by omega⟩
  case round =>
   obtain⟨k,rfl,hk,hA⟩:=hrel
   by_cases hlt:k<b.size
   ·have hx:=Zd (Kh hlt)
    rcases(show(b[k].toNat:Int)<65∨(65≤(b[k].toNat:Int)∧(b[k].toNat:Int)≤90)∨(90<(b[k].toNat:Int)∧(b[k].toNat:Int)<97)∨(97≤(b[k].toNat:Int)∧(b[k].toNat:Int)≤122)∨122<(b[k].toNat:Int)from by omega)with h|⟨h,h'⟩|⟨h,h'⟩|⟨h,h'⟩|h
    ·have q1:¬(97≤(b[k].toNat:Int)):=by omega
     have q2:(b[k].toNat:Int)≤122:=by omega
     have q3:¬(65≤(b[k].toNat:Int)):=by omega
     have q4:(b[k].toNat:Int)≤90:=by omega
     go_wp2
     all_goals first
      |(exfalso;omega)
      |(go_ret;refine⟨Zp ?_,rfl⟩;rw[Yp hlt (by rw[hx.o];rw[letB];simp;omega)])
    ·have q1:¬(97≤(b[k].toNat:Int)):=by omega
     have q2:(b[k].toNat:Int)≤122:=by omega
     have q3:65≤(b[k].toNat:Int):=by omega
     have q4:(b[k].toNat:Int)≤90:=by omega
     go_wp2
     all_goals
      refine⟨⟨k+1,by go_num,by omega,fun j hj=>?_⟩,by simp[intOf];omega⟩
      rcases Nat.lt_succ_iff_lt_or_eq.1 hj with h1|rfl
      ·exact hA.o j h1
      ·rw[hx.o];rw[letB];simp;omega
    ·have q1:¬(97≤(b[k].toNat:Int)):=by omega
     have q2:(b[k].toNat:Int)≤122:=by omega
     have q3:65≤(b[k].toNat:Int):=by omega
     have q4:¬((b[k].toNat:Int)≤90):=by omega
     go_wp2
     all_goals first
      |(exfalso;omega)
      |(go_ret;refine⟨Zp ?_,rfl⟩;rw[Yp hlt (by rw[hx.o];rw[letB];simp;omega)])
    ·have q1:97≤(b[k].toNat:Int):=by omega
     have q2:(b[k].toNat:Int)≤122:=by omega
     have q3:65≤(b[k].toNat:Int):=by omega
     have q4:¬((b[k].toNat:Int)≤90):=by omega
     go_wp2
     all_goals
      refine⟨⟨k+1,by go_num,by omega,fun j hj=>?_⟩,by simp[intOf];omega⟩
      rcases Nat.lt_succ_iff_lt_or_eq.1 hj with h1|rfl
      ·exact hA.o j h1
      ·rw[hx.o];rw[letB];simp;omega
    ·have q1:97≤(b[k].toNat:Int):=by omega
     have q2:¬((b[k].toNat:Int)≤122):=by omega
     have q3:65≤(b[k].toNat:Int):=by omega
     have q4:¬((b[k].toNat:Int)≤90):=by omega
     go_wp2
     all_goals first
      |(exfalso;omega)
      |(go_ret;refine⟨Zp ?_,rfl⟩;rw[Yp hlt (by rw[hx.o];rw[letB];simp;omega)])
   ·go_wp2;go_ret;exact⟨Zp (nameB_yes (by omega) (by omega) fun j hj=>hA.o j (by omega)).symm,rfl⟩
theorem bytes_laid(b:ByteArray)(w:World):∃C V,(convert 9 22 (.string b)).run prog w=.ok (.slice (some ⟨w.1.size,0,none⟩) b.size C) V∧Below w.1.size w V∧∀j,j<b.size→V.cell? ⟨w.1.size,j,none⟩=some (.int .u8 (Yg b j)):=by
 refine⟨_,_,run_bytes_of_string (P:=prog) w 9 22 5 b underlying9 underlying22 underlying5,?_,fun j hj=>?_⟩
 ·exact((Below.refl _ _).drew).alloc (Nat.le_refl _) _
 ·have h:=World.cell?_alloc_mark w.drew (bytesRow b (grownCap w b.size 0 5)) 5 ((bytesRow b (grownCap w b.size 0 5)).size,(bytesRow b (grownCap w b.size 0 5)).size+1) j;rw[show w.drew.heap.size=w.1.size from rfl]at h;rw[h,bytesRow_at b _ j hj,Kh hj];rfl
theorem isName_is(b:ByteArray)(w:World)(hs:b.size≤9223372036854775807) :
  Calls prog 64 #[.string b] w fun e w'=>e=.returned (.bool (Yv b))∧Below w.1.size w w':=by
 by_cases hn1:b.size<1
 ·rw[Nq (.inl hn1)];go_enter func64,ntmps64;go_wp2;go_ret;exact⟨rfl,Below.refl _ _⟩
 by_cases hn2:12<b.size
 ·rw[Nq (.inr hn2)];go_enter func64,ntmps64;go_wp2;go_ret;exact⟨rfl,Below.refl _ _⟩
 obtain⟨C,V,hconv,hB,hc⟩:=bytes_laid b w;have HB:=Zd hB;have HC:=Zd hc;clear hB hc;go_enter func64,ntmps64;go_wp2
 go_loop [16] (fun i=>∃k:Nat,i=.int .i64 (k:Int)∧k≤b.size∧Zi (∀j,j<k→letB (Yg b j)=true)) (fun i=>b.size-(intOf i).toNat)
 case atStart=>exact⟨0,rfl,Nat.zero_le _,fun j hj=>by omega⟩
 case round =>
  obtain⟨k,rfl,hk,hA⟩:=hrel
  by_cases hlt:k<b.size
  ·have hx:=HC.o k hlt;obtain⟨x,ex⟩:=nmd (Yg b k);rw[←ex]at hx;have HX:=Zd ex;clear ex
   rcases(show x<65∨(65≤x∧x≤90)∨(90<x∧x<97)∨(97≤x∧x≤122)∨122<x from by omega)with h|⟨h,h'⟩|⟨h,h'⟩|⟨h,h'⟩|h
   ·have q1:¬(97≤x):=by omega
    have q2:x≤122:=by omega
    have q3:¬(65≤x):=by omega
    have q4:x≤90:=by omega
    go_wp2
    all_goals first
     |(exfalso;omega)
     |(go_ret;refine⟨Zp ?_,HB.o⟩;rw[Yp hlt (by rw[←HX.o];rw[letB];simp;omega)])
   ·have q1:¬(97≤x):=by omega
    have q2:x≤122:=by omega
    have q3:65≤x:=by omega
    have q4:x≤90:=by omega
    go_wp2
    all_goals
     refine⟨⟨k+1,by go_num,by omega,fun j hj=>?_⟩,by simp[intOf];omega⟩
     rcases Nat.lt_succ_iff_lt_or_eq.1 hj with h1|rfl
     ·exact hA.o j h1
     ·rw[←HX.o];rw[letB];simp;omega
   ·have q1:¬(97≤x):=by omega
    have q2:x≤122:=by omega
    have q3:65≤x:=by omega
    have q4:¬(x≤90):=by omega
    go_wp2
    all_goals first
     |(exfalso;omega)
     |(go_ret;refine⟨Zp ?_,HB.o⟩;rw[Yp hlt (by rw[←HX.o];rw[letB];simp;omega)])
   ·have q1:97≤x:=by omega
    have q2:x≤122:=by omega
    have q3:65≤x:=by omega
    have q4:¬(x≤90):=by omega
    go_wp2
    all_goals
     refine⟨⟨k+1,by go_num,by omega,fun j hj=>?_⟩,by simp[intOf];omega⟩
     rcases Nat.lt_succ_iff_lt_or_eq.1 hj with h1|rfl
     ·exact hA.o j h1
     ·rw[←HX.o];rw[letB];simp;omega
   ·have q1:97≤x:=by omega
    have q2:¬(x≤122):=by omega
    have q3:65≤x:=by omega
    have q4:¬(x≤90):=by omega
    go_wp2
    all_goals first
     |(exfalso;omega)
     |(go_ret;refine⟨Zp ?_,HB.o⟩;rw[Yp hlt (by rw[←HX.o];rw[letB];simp;omega)])
  ·go_wp2;go_ret;exact⟨Zp (nameB_yes (by omega) (by omega) fun j hj=>hA.o j (by omega)).symm,HB.o⟩
structure Later(V:World) where
 w:World
 h:Below V.1.size V w
theorem Vz(V:World):Nonempty (Later V):=⟨⟨V,Below.refl _ _⟩⟩
theorem Qo(V:World){id:Nat}{Q:Exit→Act→World→Prop}{a:Act}{w:World}{l:List Oper}(hm:prog.follows .mixedOrders=true)(hB:Region.lexB .any l.toArray=true)(hw:Below V.1.size V w)
  (h:wpQuiet prog l.toArray (fun w'=>∃W:Later V,w'=W.w) (fun a'=>∀w',(∃W:Later V,w'=W.w)→Q .normal a' w') l a):(Code.region id l.toArray true).wp prog Q a w :=
 wp_region_quiet (C:=fun w'=>∃W:Later V,w'=W.w) hm hB ⟨⟨_,hw.drew⟩,rfl⟩ (by simpa using h)
theorem Later.cell{V:World}{p:Addr}{v:Value}(h:V.cell? p=some v)(hp:p.block<V.1.size)(W:Later V):W.w.cell? p=some v:=(W.h.cell hp).trans h
theorem Bx.at{V:World}{p:Nat}{us:List Value}(h:Bx V p us)(i:Nat){v:Value}(e:us[i]? = some v)(W:Later V):W.w.cell? ⟨p,i,none⟩=some v:=(h.later W.h).c i e
theorem Calls.later{V:World}{W:Later V}{f:FuncId}{args:Array Value}{v:Value}(h:Calls prog f args W.w fun e w'=>e=.returned v∧Below W.w.heap.size W.w w'):Calls prog f args W.w fun e w''=>e=.returned v∧∃W':Later V,w''=W'.w :=
 h.mono fun _ w2 ⟨he,hb⟩=>⟨he,⟨w2,W.h.trans (hb.mono W.h.size)⟩,rfl⟩
end Go.Proofs.YtdacedbfnlkghaaGreatDoor