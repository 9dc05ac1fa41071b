/- Rows of elements in memory, of any kind: what lies where, and what copies, appends and stores leave. Rows of ints: the small functions over them. Boxes: blocks of a struct's cells. No conditions but those written. -/
import Derived.Test.YtdacedbfnlkghaaGreatDoorRows
import Derived.WalkKit
import Derived.WalkSpells
import Derived.Deep.RegionWith
import Derived.Deep.QuietTactic
import Derived.BigQuiet
import Derived.Laws.CopyOwn
import Derived.ArgAppend
import Derived.OwnWalk
import Derived.Deep.RegionHeld3
namespace Go.Proofs.YtdacedbfnlkghaaGreatDoor
set_option maxHeartbeats 1000000
open Go.RowKit Go.Proofs.Tryz
def Zi(p:Prop):Prop:=p
theorem Zi.o{p:Prop}(h:Zi p):p:=h
theorem Zd{p:Prop}(h:p):Zi p:=h
theorem nmd{α:Type _}(a:α):∃V,V=a:=⟨_,rfl⟩
section
open Go.RowKit
theorem Zp{a b:Bool}(h:a=b):Ending.returned (.bool a)=.returned (.bool b):=by rw[h]
theorem Xc{k:IntKind}{a b:Int}(h:a=b):Ending.returned (.int k a)=.returned (.int k b):=by rw[h]
theorem Zk(w:World)(o:Obj):Below w.1.size w (w.alloc o):=(Below.refl _ _).alloc (Nat.le_refl _) _
theorem Qf(w:World)(o p:Obj):Below w.1.size w ((w.alloc o).alloc p):=(Zk w o).alloc (by simp) _
theorem below3(w:World)(o p q:Obj):Below w.1.size w (((w.alloc o).alloc p).alloc q):=(Qf w o p).alloc (by simp;omega) _
theorem Zc{B:Nat}{a w:World}(h:Below B a w)(n:Nat):Below B a (w.drewN n):=h.trans ⟨rfl,rfl,rfl,Nat.le_refl _,fun _ _=>rfl⟩
theorem Zx{a w:World}(h:Below a.1.size a w)(o:Obj):Below a.1.size a (w.alloc o):=h.alloc h.size o
theorem len1{α:Type}{l:List α}(h:l.length≠0):((l.length:Int)==0)=false∧decide ((0:Int)<(l.length:Int))=true:=by
 constructor
 ·simp;intro h';exact h (by simp[h'])
 ·have:0<l.length:=by omega
  simpa using this
theorem Ym{w w':World}{base:Nat}{e:TypeId}{size:Nat}{v:Value}{n:Nat}{xs:List Value}(h:w.ownsRow base e size v n xs)(hb:Below w.1.size w w'):w'.ownsRow base e size v n xs:=by
 obtain⟨h1,h2⟩:=h;refine⟨h1,?_⟩
 rcases h2 with h2|⟨g,cap,cur,hv,hg,hh,r⟩
 ·exact Or.inl h2
 ·have hlt:g<w.1.size:=(Array.getElem?_eq_some_iff.1 hh).1;exact Or.inr ⟨g,cap,cur,hv,hg,by rw[hb.block g hlt];exact hh,r⟩
theorem Jt{W:World}{base e size g n cap:Nat}{xs:List Value}(h:W.ownsRow base e size (.slice (some ⟨g,0,none⟩) n cap) n xs):base≤g∧g<W.1.size:=by
 rcases h.2 with⟨h',_⟩|⟨g',cap',cur,h',hb,hg,_⟩
 ·simp at h'
 ·simp only[Value.slice.injEq,Option.some.injEq,Addr.mk.injEq,and_true,true_and]at h';obtain⟨rfl,rfl⟩:=h';exact⟨hb,(Array.getElem?_eq_some_iff.1 hg).1⟩
theorem ownsRow_base{w:World}{base base':Nat}{e:TypeId}{size:Nat}{g n cap:Nat}{xs:List Value}(h:w.ownsRow base e size (.slice (some ⟨g,0,none⟩) n cap) n xs)(hg:base'≤g):w.ownsRow base' e size (.slice (some ⟨g,0,none⟩) n cap) n xs:=by
 obtain⟨h1,h2⟩:=h;refine⟨h1,?_⟩
 rcases h2 with⟨h',_⟩|⟨g',cap',cur,h',r⟩
 ·simp at h'
 ·have h'':=h';simp only[Value.slice.injEq,Option.some.injEq,Addr.mk.injEq,and_true,true_and]at h'';obtain⟨rfl,rfl⟩:=h'';exact Or.inr ⟨g,cap,cur,h',hg,r.2⟩
theorem Ji{w w':World}{base:Nat}{e:TypeId}{size g n cap:Nat}{xs:List Value}(h:w.ownsRow base e size (.slice (some ⟨g,0,none⟩) n cap) n xs)(hb:w'.heap[g]? = w.heap[g]?):w'.ownsRow base e size (.slice (some ⟨g,0,none⟩) n cap) n xs:=by
 obtain⟨h1,h2⟩:=h;refine⟨h1,?_⟩
 rcases h2 with⟨h',_⟩|⟨g',cap',cur,h',hg,hh,r⟩
 ·simp at h'
 ·have h'':=h';simp only[Value.slice.injEq,Option.some.injEq,Addr.mk.injEq,and_true,true_and]at h'';obtain⟨rfl,rfl⟩:=h'';exact Or.inr ⟨g,cap,cur,h',hg,by rw[hb];exact hh,r⟩
theorem Yk{w:World}{base:Nat}{e:TypeId}{size:Nat}{g n cap:Nat}{xs:List Value}(h:w.ownsRow base e size (.slice (some ⟨g,0,none⟩) n cap) n xs) :
  ∃cur:List Value,w.heap[g]? = some (.cells cur.toArray e (0,0))∧cur.length=cap*size∧base≤g∧n≤cap∧cap≤maxLen:=by
 rcases h.2 with⟨h',_⟩|⟨g',cap',cur,h',hb,hg,h1,h2,h3,h4⟩
 ·simp at h'
 ·simp only[Value.slice.injEq,Option.some.injEq,Addr.mk.injEq,and_true,true_and]at h';obtain⟨rfl,rfl⟩:=h';exact⟨cur.toList,by simpa using hg,by simpa using h3,hb,h1,h2⟩
theorem Rz{w:World}{base:Nat}{e:TypeId}{size g n cap:Nat}{xs:List Value}(h:w.ownsRow base e size (.slice (some ⟨g,0,none⟩) n cap) n xs):∃cur,w.heap[g]? = some (.cells cur e (0,0)):=by
 obtain⟨cur,h,_⟩:=Yk h;exact⟨_,h⟩
structure OnlyAt(ao:Option Addr)(w w':World):Prop where
 os:w'.os=w.os
 tape:w'.tape=w.tape
 output:w'.output=w.output
 size:w'.1.size=w.1.size
 block:∀k,(∀g,ao=some ⟨g,0,none⟩→k≠g)→w'.heap[k]? = w.heap[k]?
theorem OnlyAt.refl(ao:Option Addr)(w:World):OnlyAt ao w w:=⟨rfl,rfl,rfl,rfl,fun _ _=>rfl⟩
theorem OnlyAt.trans{ao:Option Addr}{a b c:World}(h:OnlyAt ao a b)(k:OnlyAt ao b c):OnlyAt ao a c :=
 ⟨k.os.trans h.os,k.tape.trans h.tape,k.output.trans h.output,k.size.trans h.size,fun i hi=>(k.block i hi).trans (h.block i hi)⟩
theorem OnlyAt.set(g o:Nat)(w:World)(u:Value):OnlyAt (some ⟨g,0,none⟩) w (w.setCell ⟨g,o,none⟩ u) :=
 ⟨rfl,rfl,rfl,by simp[World.setCell],fun k hk=>Below.heap_setCell _ _ _ _ (hk g rfl)⟩
theorem OnlyAt.below{g B:Nat}{w w':World}(h:OnlyAt (some ⟨g,0,none⟩) w w')(hg:B≤g):Below B w w' :=
 ⟨h.os,h.tape,h.output,by rw[h.size];exact Nat.le_refl _,fun k hk=>h.block k fun g' e=>by cases e;omega⟩
structure Between(lo hi:Nat)(w w':World):Prop where
 os:w'.os=w.os
 tape:w'.tape=w.tape
 output:w'.output=w.output
 size:w.1.size≤w'.1.size
 block:∀k,k<w.1.size→(k<lo∨hi≤k)→w'.heap[k]? = w.heap[k]?
theorem Between.below{lo hi:Nat}{w w':World}(h:Between lo hi w w')(hl:lo≤w.1.size):Below lo w w' :=
 ⟨h.os,h.tape,h.output,h.size,fun k hk=>h.block k (by omega) (.inl hk)⟩
theorem Between.trans{lo hi:Nat}{a b c:World}(h:Between lo hi a b)(k:Between lo hi b c):Between lo hi a c :=
 ⟨k.os.trans h.os,k.tape.trans h.tape,k.output.trans h.output,Nat.le_trans h.size k.size,fun i hi hr=>(k.block i (Nat.lt_of_lt_of_le hi h.size) hr).trans (h.block i hi hr)⟩
theorem Between.of_below{lo hi:Nat}{w w':World}(h:Below w.1.size w w'):Between lo hi w w' :=
 ⟨h.os,h.tape,h.output,h.size,fun k hk _=>h.block k hk⟩
theorem Between.refl(lo hi:Nat)(w:World):Between lo hi w w:=⟨rfl,rfl,rfl,Nat.le_refl _,fun _ _ _=>rfl⟩
def eff(ao:Option Addr)(n:Nat):Option Addr:=if n=0 then none else ao
theorem eff_pos{ao:Option Addr}{n:Nat}(h:0<n):eff ao n=ao:=by unfold eff;rw[if_neg (by omega)]
theorem run_copy_part{P:Program}(w:World)(dT sT ty elem:TypeId)(g dLen dCap:Nat)(a:Addr)(sLen sCap:Nat)(cur:Array Value)(t:TypeId)(cs:List Value)(sz n:Nat)
  (hu:P.underlying dT=some (.slice elem)) (hs:(P.info? elem).map (·.size)=some sz) (hg:w.heap[g]? = some (.cells cur t (0,0))) (hnm:Nat.min sLen dLen=n) (hn:cs.length=n*sz)
  (hsrc:∀j v,cs[j]? = some v→w.cell? (a.add j)=some v) (hfit:cs.length≤cur.size) (h1:∀v∈cs,v.oneCell'=true) :
  (Builtin.copy_ #[dT,sT] ty #[.slice (some ⟨g,0,none⟩) dLen dCap,.slice (some a) sLen sCap]).run P w=.ok (goInt n) (w.setRow g (cs++cur.toList.drop cs.length).toArray):=by
 have hl:=run_loadCells_list (P:=P) w a cs hsrc;have hst:=run_storeCells_at P g 0 t cs 0 cur w hg (by omega) h1
 cases hq:P.info? elem with
 |none=>simp[hq]at hs
 |some i =>
  have hi:i.size=sz:=by simpa[hq]using hs
  simp only[Nat.zero_add,List.take_zero,List.nil_append]at hst
  simp[Builtin.copy_,run_underlying hu,Builtin.lenOf,Builtin.firstCells,sizeOf,typeInfo,hq,hi,hnm,←hn,hl,hst]
theorem run_copy_zero{P:Program}(w:World)(dT sT ty elem:TypeId)(sz:Nat)(d a:Option Addr)(dLen dCap sLen sCap:Nat)(hu:P.underlying dT=some (.slice elem))(hs:(P.info? elem).map (·.size)=some sz)(hn:Nat.min sLen dLen=0) :
  (Builtin.copy_ #[dT,sT] ty #[.slice d dLen dCap,.slice a sLen sCap]).run P w=.ok (goInt 0) w:=by
 cases hq:P.info? elem with
 |none=>simp[hq]at hs
 |some i =>
  have hl:∀(x:Addr),(loadCells x 0).run P w=.ok #[] w:=fun x=>by simpa using run_loadCells_list (P:=P) w x [] (by simp)
  cases d <;> cases a <;> simp[Builtin.copy_,run_underlying hu,Builtin.lenOf,Builtin.firstCells,sizeOf,typeInfo,hq,hn,storeCells,hl]
def el{α:Type} [Inhabited α] (xs:List α) (j:Nat):α:=xs[j]?.getD default
section
variable {α:Type} [Inhabited α]
theorem Km{xs:List α}{j:Nat}(h:j<xs.length):el xs j=xs[j]:=by simp[el,h]
theorem Vl(x:α)(xs:List α)(j:Nat):el (x::xs) (j+1)=el xs j:=by simp[el]
theorem Kd(x:α)(xs:List α):el (x::xs) 0=x:=by simp[el]
theorem el_take{xs:List α}{j k:Nat}(h:j<k):el (xs.take k) j=el xs j:=by simp[el,h]
theorem el_drop(xs:List α)(j k:Nat):el (xs.drop k) j=el xs (k+j):=by simp[el]
theorem Uk{xs ys:List α}{j:Nat}(h:j<xs.length):el (xs++ys) j=el xs j:=by simp[el,List.getElem?_append_left h]
theorem Hb(xs ys:List α)(j:Nat):el (xs++ys) (xs.length+j)=el ys j:=by simp[el,List.getElem?_append_right]
theorem Zl{xs:List α}{j:Nat}(h:j<xs.length):el xs j∈xs:=by rw[Km h];exact List.getElem_mem h
theorem Gx{xs:List α}{x:α}(h:x∈xs):∃j,j<xs.length∧el xs j=x:=by
 obtain⟨j,hj,rfl⟩:=List.mem_iff_getElem.1 h;exact⟨j,hj,Km hj⟩
theorem Zy{xs:List α}{j:Nat}(h:j<xs.length):xs.take (j+1)=xs.take j++[el xs j]:=by rw[Km h,List.take_succ_eq_append_getElem h]
end
structure Kind(α:Type) where
 ty:TypeId
 st:TypeId
 sz:Nat
 enc:α→List Value
 len:∀a,(enc a).length=sz
 one:∀a v,v∈enc a→v.oneCell'=true
structure Kind.Ok{α:Type}(K:Kind α):Prop where
 und:prog.underlying K.st=some (.slice K.ty)
 info:∃i z,prog.info? K.ty=some i∧i.zero=some z∧i.size=K.sz∧z.cells.size=K.sz∧i.bytes≤4096
 pos:0<K.sz
theorem Pd{α:Type}{K:Kind α}{z:Value}{b:Nat}(hu:prog.underlying K.st=some (.slice K.ty))(hi:(prog.info? K.ty).map (fun i=>(i.zero,i.size,i.bytes))=some (some z,K.sz,b))(hz:z.cells.size=K.sz)(hb:b≤4096)(hp:0<K.sz):K.Ok:=by
 obtain⟨i,h1,h2,h3,h4⟩:=info_parts hi;exact⟨hu,⟨i,z,h1,h2,h3,hz,by omega⟩,hp⟩
section
variable {α:Type} {K:Kind α}
theorem Kind.Ok.size(h:K.Ok):(prog.info? K.ty).map (·.size)=some K.sz:=by
 obtain⟨i,z,h1,_,h3,_⟩:=h.info;rw[h1];simp[h3]
def Kind.flat(K:Kind α)(xs:List α):List Value:=xs.flatMap K.enc
theorem Vc(K:Kind α)(x:α)(xs:List α):K.flat (x::xs)=K.enc x++K.flat xs:=by simp[Kind.flat]
theorem Kind.flat_app(K:Kind α)(xs ys:List α):K.flat (xs++ys)=K.flat xs++K.flat ys:=by simp[Kind.flat]
theorem Kind.flat_one(K:Kind α)(xs:List α):∀v∈K.flat xs,v.oneCell'=true:=by
 intro v hv;obtain⟨a,_,h⟩:=List.mem_flatMap.1 hv;exact K.one a v h
theorem Kind.flat_len(K:Kind α):∀xs:List α,(K.flat xs).length=xs.length*K.sz
 | []=>by simp[Kind.flat]
 |x::r=>by rw[Vc,List.length_append,K.len,Kind.flat_len K r,List.length_cons,Nat.add_mul,Nat.one_mul,Nat.add_comm]
theorem Kind.flat_at [Inhabited α] (K:Kind α):∀(xs:List α)(j:Nat),j<xs.length→∀i,i<K.sz→(K.flat xs)[j*K.sz+i]? = (K.enc (el xs j))[i]?
 | [],j,h,_,_=>by simp at h
 |x::r,0,_,i,hi=>by rw[Vc,Nat.zero_mul,Nat.zero_add,List.getElem?_append_left (by rw[K.len];exact hi),Kd]
 |x::r,j+1,h,i,hi=>by
  rw[Vc,Vl,List.getElem?_append_right (by rw[K.len,Nat.add_mul,Nat.one_mul];omega),K.len,←Kind.flat_at K r j (by simpa using h) i hi]
  congr 1
  rw[Nat.add_mul,Nat.one_mul];omega
theorem Kind.flat_of [Inhabited α] (K:Kind α) (cs:List Value) (xs:List α) (hl:cs.length=xs.length*K.sz) (h:∀j,j<xs.length→∀i,i<K.sz→cs[j*K.sz+i]? = (K.enc (el xs j))[i]?):cs=K.flat xs:=by
 apply List.ext_getElem?
 intro k
 by_cases hk:k<cs.length
 ·have hz:0<K.sz:=by
   rcases Nat.eq_zero_or_pos K.sz with e|e
   ·rw[hl,e]at hk;simp at hk
   ·exact e
  have hj:k / K.sz<xs.length:=by rw[Nat.div_lt_iff_lt_mul hz,←hl];exact hk
  have e:k / K.sz*K.sz+k % K.sz=k:=by rw[Nat.mul_comm];exact Nat.div_add_mod k K.sz
  have h1:=h _ hj (k % K.sz) (Nat.mod_lt _ hz);have h2:=K.flat_at xs _ hj (k % K.sz) (Nat.mod_lt _ hz);rw[e]at h1 h2;rw[h1,h2]
 ·rw[List.getElem?_eq_none (by omega),List.getElem?_eq_none (by rw[K.flat_len];omega)]
end
section
variable {α:Type} {K:Kind α}
def Kind.In [Inhabited α] (K:Kind α) (n:Nat) (W:World) (ao:Option Addr) (xs:List α):Prop :=
 xs=[]∨∃b off,ao=some ⟨b,off,none⟩∧b<n∧∀j,j<xs.length→∀i,i<K.sz→W.cell? ⟨b,off+j*K.sz+i,none⟩=(K.enc (el xs j))[i]?
theorem Kind.In.pos [Inhabited α] {n:Nat} {W:World} {ao:Option Addr} {xs:List α} (h:K.In n W ao xs) {k:Nat} (hk:k<xs.length) :
  ∃b off,ao=some ⟨b,off,none⟩∧b<n∧∀j,j<xs.length→∀i,i<K.sz→W.cell? ⟨b,off+j*K.sz+i,none⟩=(K.enc (el xs j))[i]? := by
 rcases h with rfl|h
 ·simp at hk
 ·exact h
theorem Kind.In.below [Inhabited α] {n:Nat} {W W':World} {ao:Option Addr} {xs:List α} (h:K.In n W ao xs) (hb:Below n W W'):K.In n W' ao xs:=by
 rcases h with rfl|⟨b,off,e,hn,hc⟩
 ·exact .inl rfl
 ·exact .inr ⟨b,off,e,hn,fun j hj i hi=>(hb.cell (p:=⟨b,off+j*K.sz+i,none⟩) hn).trans (hc j hj i hi)⟩
theorem Kind.In.up [Inhabited α] {n m:Nat} {W:World} {ao:Option Addr} {xs:List α} (h:K.In n W ao xs) (hm:n≤m):K.In m W ao xs:=by
 rcases h with rfl|⟨b,off,e,hn,hc⟩
 ·exact .inl rfl
 ·exact .inr ⟨b,off,e,Nat.lt_of_lt_of_le hn hm,hc⟩
theorem Kind.In.later [Inhabited α] {W W':World} {ao:Option Addr} {xs:List α} (h:K.In W.1.size W ao xs) (hb:Below W.1.size W W'):K.In W'.1.size W' ao xs:=(h.below hb).up hb.size
theorem Kind.In.take [Inhabited α] {n:Nat} {W:World} {ao:Option Addr} {xs:List α} (h:K.In n W ao xs) (k:Nat):K.In n W ao (xs.take k):=by
 rcases h with rfl|⟨b,off,e,hb,hc⟩
 ·exact .inl (by simp)
 ·refine .inr ⟨b,off,e,hb,fun j hj i hi=>?_⟩;have hj':j<k∧j<xs.length:=by simp at hj;omega
  rw[el_take hj'.1];exact hc j hj'.2 i hi
theorem Kind.In.mk1 [Inhabited α] {n:Nat} {W:World} {p off:Nat} {x:α} (hp:p<n) (h:∀i,i<K.sz→W.cell? ⟨p,off+i,none⟩=(K.enc x)[i]?):K.In n W (some ⟨p,off,none⟩) [x]:=by
 refine .inr ⟨p,off,rfl,hp,fun j hj i hi=>?_⟩
 simp at hj
 subst hj;rw[Kd,Nat.zero_mul,Nat.add_zero];exact h i hi
theorem Kind.In.src [Inhabited α] {n:Nat} {W:World} {ad:Addr} {xs:List α} (h:K.In n W (some ad) xs):∀j v,(K.flat xs)[j]? = some v→W.cell? (ad.add j)=some v:=by
 intro k v hv
 rcases h with rfl|⟨b,off,e,hb,hc⟩
 ·simp[Kind.flat]at hv
 ·cases e
  have hk:k<xs.length*K.sz:=by have:=(List.getElem?_eq_some_iff.1 hv).1;rwa [K.flat_len]at this
  have hz:0<K.sz:=by
   rcases Nat.eq_zero_or_pos K.sz with e|e
   ·rw[e]at hk;simp at hk
   ·exact e
  have hj:k / K.sz<xs.length:=by rw[Nat.div_lt_iff_lt_mul hz];exact hk
  have e:k / K.sz*K.sz+k % K.sz=k:=by rw[Nat.mul_comm];exact Nat.div_add_mod k K.sz
  have h1:=hc _ hj (k % K.sz) (Nat.mod_lt _ hz);have h2:=K.flat_at xs _ hj (k % K.sz) (Nat.mod_lt _ hz);rw[Nat.add_assoc,e]at h1;rw[e]at h2;have ea:(⟨b,off,none⟩:Addr).add k=⟨b,off+k,none⟩:=by by_cases h:k=0 <;> simp[Addr.add,h]
  rw[ea,h1,←h2,hv]
def Kind.Fresh(K:Kind α)(lo hi:Nat)(W:World)(to:Option Addr)(tc:Nat)(xs:List α):Prop :=
 xs=[]∨∃g,to=some ⟨g,0,none⟩∧g<hi∧W.ownsRow lo K.ty K.sz (.slice (some ⟨g,0,none⟩) xs.length tc) xs.length (K.flat xs)
theorem Kind.Fresh.in [Inhabited α] {lo hi:Nat} {W:World} {to:Option Addr} {tc:Nat} {xs:List α} (h:K.Fresh lo hi W to tc xs):K.In W.1.size W to xs:=by
 rcases h with h|⟨g,rfl,_,ho⟩
 ·exact .inl h
 ·refine .inr ⟨g,0,rfl,(Jt ho).2,fun j hj i hi=>?_⟩;have hlt:j*K.sz+i<xs.length*K.sz:=by
   have:(j+1)*K.sz≤xs.length*K.sz:=Nat.mul_le_mul_right _ hj;rw[Nat.add_mul,Nat.one_mul]at this;omega
  rw[Nat.zero_add,ho.cellAt _ hlt,K.flat_at xs j hj i hi]
theorem Kind.Fresh.keep{lo hi:Nat}{W W':World}{to:Option Addr}{tc:Nat}{xs:List α}(h:K.Fresh lo hi W to tc xs)(hk:∀k,lo≤k→k<hi→k<W.1.size→W'.heap[k]? = W.heap[k]?):K.Fresh lo hi W' to tc xs:=by
 rcases h with h|⟨g,e,hg,ho⟩
 ·exact .inl h
 ·exact .inr ⟨g,e,hg,Ji ho (hk g (Jt ho).1 hg (Jt ho).2)⟩
theorem Kind.Fresh.later{lo hi:Nat}{W W':World}{to:Option Addr}{tc:Nat}{xs:List α}(h:K.Fresh lo hi W to tc xs)(hb:Below W.1.size W W'):K.Fresh lo hi W' to tc xs:=h.keep fun k _ _ hk=>hb.block k hk
theorem Kind.Fresh.wide{lo hi lo' hi':Nat}{W:World}{to:Option Addr}{tc:Nat}{xs:List α}(h:K.Fresh lo hi W to tc xs)(h1:lo'≤lo)(h2:hi≤hi'):K.Fresh lo' hi' W to tc xs:=by
 rcases h with h|⟨g,e,hg,ho⟩
 ·exact .inl h
 ·exact .inr ⟨g,e,by omega,ownsRow_base ho (Nat.le_trans h1 (Jt ho).1)⟩
theorem Kind.Fresh.low{lo hi:Nat}{W:World}{to:Option Addr}{tc:Nat}{xs:List α}(h:K.Fresh lo hi W to tc xs){hi':Nat}(h2:W.1.size≤hi'):K.Fresh lo hi' W to tc xs:=by
 rcases h with h|⟨g,e,hg,ho⟩
 ·exact .inl h
 ·exact .inr ⟨g,e,Nat.lt_of_lt_of_le (Jt ho).2 h2,ho⟩
theorem Kind.Fresh.setBelow{lo hi:Nat}{W:World}{to:Option Addr}{tc:Nat}{xs:List α}(h:K.Fresh lo hi W to tc xs){a:Addr}(ha:a.block<lo)(u:Value):K.Fresh lo hi (W.setCell a u) to tc xs:=h.keep fun k hk _ _=>Below.heap_setCell W a u k (by omega)
theorem Kind.Fresh.setAbove{lo hi:Nat}{W:World}{to:Option Addr}{tc:Nat}{xs:List α}(h:K.Fresh lo hi W to tc xs){a:Addr}(ha:hi≤a.block)(u:Value):K.Fresh lo hi (W.setCell a u) to tc xs:=h.keep fun k _ hk _=>Below.heap_setCell W a u k (by omega)
theorem Kind.Fresh.nil(K:Kind α)(lo hi:Nat)(W:World)(to:Option Addr)(tc:Nat):K.Fresh lo hi W to tc []:=.inl rfl
theorem Kind.Fresh.cap{lo hi:Nat}{W:World}{to:Option Addr}{tc:Nat}{xs:List α}(h:K.Fresh lo hi W to tc xs):xs.length≤tc:=by
 rcases h with rfl|⟨g,rfl,_,ho⟩
 ·simp
 ·obtain⟨_,_,_,_,h,_⟩:=Yk ho;exact h
theorem Kind.Fresh.between{lo hi:Nat}{W W':World}{to:Option Addr}{tc:Nat}{xs:List α}(h:K.Fresh lo hi W to tc xs)(hb:OnlyAt (eff to xs.length) W W'):Between lo hi W W':=by
 refine⟨hb.os,hb.tape,hb.output,by rw[hb.size];exact Nat.le_refl _,fun k _ hr=>hb.block k fun g e=>?_⟩
 rcases h with rfl|⟨g2,e2,hg,ho⟩
 ·simp[eff]at e
 ·unfold eff at e
  split at e
  ·cases e
  ·rw[e2]at e;simp at e;subst e
   have:=(Jt ho).1
   omega
theorem Kind.Fresh.between'{lo hi lo' hi':Nat}{W W':World}{to:Option Addr}{tc:Nat}{xs:List α}(h:K.Fresh lo hi W to tc xs)(hb:Between lo' hi' W W')(hd:hi≤lo'∨hi'≤lo):K.Fresh lo hi W' to tc xs :=
 h.keep fun k h1 h2 h3=>hb.block k h3 (by omega)
def RowAt(W:World)(ao:Option Addr)(n:Nat)(e:TypeId):Prop:=n=0∨∃g cur,ao=some ⟨g,0,none⟩∧W.heap[g]? = some (.cells cur e (0,0))
theorem Kind.Fresh.rowAt{lo hi:Nat}{W:World}{to:Option Addr}{tc:Nat}{xs:List α}(h:K.Fresh lo hi W to tc xs):RowAt W to xs.length K.ty:=by
 rcases h with rfl|⟨g,e,_,ho⟩
 ·exact .inl rfl
 ·obtain⟨cur,hc⟩:=Rz ho;exact .inr ⟨g,cur,e,hc⟩
def Off(ao:Option Addr)(n:Nat)(bo:Option Addr)(m:Nat):Prop:=n=0∨m=0∨ao≠bo
theorem RowAt.off{W:World}{ao bo:Option Addr}{n m:Nat}{e e':TypeId}(h:RowAt W ao n e)(h':RowAt W bo m e')(hne:e≠e'):Off ao n bo m:=by
 rcases h with h|⟨g,cur,rfl,h⟩
 ·exact .inl h
 ·rcases h' with h' |⟨g',cur',rfl,h'⟩
  ·exact .inr (.inl h')
  ·refine .inr (.inr fun e=>?_)
   cases e
   rw[h]at h';simp at h';exact hne h'.2
theorem Off.symm{ao bo:Option Addr}{n m:Nat}(h:Off ao n bo m):Off bo m ao n:=by
 rcases h with h|h|h
 ·exact .inr (.inl h)
 ·exact .inl h
 ·exact .inr (.inr fun e=>h e.symm)
theorem Off.ne{ao bo:Option Addr}{n m:Nat}(h:Off ao n bo m)(hn:n≠0){g:Nat}(e:ao=some ⟨g,0,none⟩):∀g',eff bo m=some ⟨g',0,none⟩→g≠g':=by
 intro g' h' e';subst e'
 unfold eff at h'
 split at h'
 ·cases h'
 ·rcases h with h|h|h
  ·exact hn h
  ·exact absurd h (by assumption)
  ·exact h (e.trans h'.symm)
theorem Kind.Fresh.off{lo hi:Nat}{W W':World}{to bo:Option Addr}{tc m:Nat}{xs:List α}(h:K.Fresh lo hi W to tc xs)(ho:Off to xs.length bo m)(hb:OnlyAt (eff bo m) W W'):K.Fresh lo hi W' to tc xs:=by
 rcases h with h|⟨g,e,hg,hw⟩
 ·exact .inl h
 ·by_cases hn:xs.length=0
  ·exact .inl (List.length_eq_zero_iff.1 hn)
  ·exact .inr ⟨g,e,hg,Ji hw (hb.block g (ho.ne hn e))⟩
theorem Kind.Fresh.at{lo hi:Nat}{W:World}{to:Option Addr}{tc:Nat}{xs:List α}(h:K.Fresh lo hi W to tc xs)(hn:0<xs.length):∃g,to=some ⟨g,0,none⟩∧lo≤g∧g<hi∧g<W.1.size∧W.ownsRow lo K.ty K.sz (.slice (some ⟨g,0,none⟩) xs.length tc) xs.length (K.flat xs):=by
 rcases h with rfl|⟨g,e,hg,ho⟩
 ·simp at hn
 ·exact⟨g,e,(Jt ho).1,hg,(Jt ho).2,ho⟩
def Kind.Own(K:Kind α)(lo:Nat)(W:World)(v:Value)(xs:List α):Prop:=W.ownsRow lo K.ty K.sz v xs.length (K.flat xs)
theorem Kind.Own.nil(K:Kind α)(lo:Nat)(W:World):K.Own lo W (.slice none 0 0) []:=World.ownsRow_nil _ _ _ _
theorem Kind.Own.new(K:Kind α)(lo:Nat)(W:World)(h:lo≤W.1.size):K.Own lo (W.alloc (.cells #[] K.ty)) (.slice (some ⟨W.1.size,0,none⟩) 0 0) [] :=
 World.ownsRow_made W #[] 0 h (Nat.zero_le _) (by simp)
theorem Kind.Own.fresh{lo:Nat}{W:World}{v:Value}{xs:List α}(h:K.Own lo W v xs):∃go qc,v=.slice go xs.length qc∧(go=none→qc=0)∧K.Fresh lo W.1.size W go qc xs:=by
 rcases h.2 with⟨e,h0⟩|⟨g,cap,cur,e,_⟩
 ·have:xs=[]:=List.length_eq_zero_iff.1 h0;subst this;exact⟨none,0,e,fun _=>rfl,.inl rfl⟩
 ·refine⟨some ⟨g,0,none⟩,cap,e,(fun h=>by cases h),.inr ⟨g,rfl,?_,?_⟩⟩
  ·unfold Kind.Own at h;rw[e]at h;exact(Jt h).2
  ·unfold Kind.Own at h;rw[e]at h;exact h
theorem Kind.Own.some{lo:Nat}{W:World}{v:Value}{xs:List α}(h:K.Own lo W v xs)(hv:v≠.slice none 0 0):∃g c,v=.slice (some ⟨g,0,none⟩) xs.length c∧K.Fresh lo W.1.size W (some ⟨g,0,none⟩) c xs:=by
 rcases h.2 with⟨e,_⟩|⟨g,cap,cur,e,_⟩
 ·exact absurd e hv
 ·refine⟨g,cap,e,.inr ⟨g,rfl,?_,?_⟩⟩
  ·unfold Kind.Own at h;rw[e]at h;exact(Jt h).2
  ·unfold Kind.Own at h;rw[e]at h;exact h
theorem Kind.Own.low{lo:Nat}{W:World}{v:Value}{xs:List α}(h:K.Own lo W v xs):∀k,v.ownBlock=Option.some k→lo≤k:=by
 rcases h.2 with⟨e,_⟩|⟨g,cap,cur,e,hb,hh,_⟩
 ·subst e;intro k h;simp[Value.ownBlock]at h
 ·subst e;intro k h;simp[Value.ownBlock]at h;omega
theorem Kind.Own.below{lo:Nat}{W W':World}{v:Value}{xs:List α}(h:K.Own lo W v xs)(hb:Below W.1.size W W'):K.Own lo W' v xs:=Ym h hb
theorem Kind.Own.belowG{lo:Nat}{W W':World}{v:Value}{xs:List α}(h:K.Own lo W v xs)(hg:W.grownBy W' v.ownBlock)(hlo:lo≤W.1.size):Below lo W W' :=
 ⟨hg.os,hg.tape,hg.output,hg.size,fun k hk=>hg.block k (by omega) (fun e=>by have:=h.low k e.symm;omega)⟩
theorem Kind.Own.keep{lo:Nat}{W W':World}{v:Value}{xs:List α}(h:K.Own lo W v xs)(hk:∀k,lo≤k→k<W.1.size→W'.heap[k]? = W.heap[k]?):K.Own lo W' v xs:=by
 obtain⟨h1,h2⟩:=h;refine⟨h1,?_⟩
 rcases h2 with h2|⟨g,cap,cur,hv,hg,hh,r⟩
 ·exact Or.inl h2
 ·exact Or.inr ⟨g,cap,cur,hv,hg,by rw[hk g hg (Array.getElem?_eq_some_iff.1 hh).1];exact hh,r⟩
theorem Kind.Own.setBelow{lo:Nat}{W:World}{v:Value}{xs:List α}(h:K.Own lo W v xs){a:Addr}(ha:a.block<lo)(u:Value):K.Own lo (W.setCell a u) v xs:=h.keep fun k hk _=>Below.heap_setCell W a u k (by omega)
theorem Kind.Own.in [Inhabited α] {lo:Nat} {W:World} {v:Value} {xs:List α} (h:K.Own lo W v xs):∃go qc,v=.slice go xs.length qc∧(go=none→qc=0)∧K.In W.1.size W go xs:=by
 obtain⟨go,qc,e,hn,hF⟩:=h.fresh;exact⟨go,qc,e,hn,hF.in⟩
theorem some_ne{g o:Nat}{n c:Nat}:Value.slice (some ⟨g,o,none⟩) n c≠.slice none 0 0:=by intro h;simp at h
theorem Kind.app [Inhabited α] (hK:K.Ok) {ops:Array Oper} {rest:List Oper} {o:Oper} {a:Act} {Q:Exit→Act→World→Prop} (W:World) (hg:o.guard=none) (s x:Operand) (hop:o.op=Op.call { callee:=Callee.builtin Builtin.append,args := #[s,x],argTypes := #[K.st,K.st] })
  (lo:Nat) (v:Value) (xs:List α) (hs:a.eval s=v) (hown:K.Own lo W v xs) (hlo:lo≤W.1.size)
  (ao:Option Addr) (ys:List α) (m c:Nat) (hx:a.eval x=.slice ao m c) (hm:ys.length=m) (hno:ao=none→c=0) (n:Nat) (hz:K.In n W ao ys) (hl:xs.length+ys.length≤4194304)
  (hk:∀v' w',K.Own lo w' v' (xs++ys)→Below lo W w'→W.grownBy w' v.ownBlock→(v≠.slice none 0 0→v'≠.slice none 0 0)→wpList prog ops Q rest (a.put o.dst v') w') :
  wpList prog ops Q (o::rest) a W:=by
 obtain⟨i0,z0,hin,hz0,hz1,hz2,hz3⟩:=hK.info
 cases ao with
 |none =>
  have hy:ys=[]:=by rcases hz with h|⟨b,off,e,_⟩;exact h;cases e
  subst hy;have hc:=hno rfl;subst hc hm;have hrun:=run_append_owned_none (P:=prog) W lo K.st o.type K.ty i0 K.sz hK.und hin v xs.length (K.flat xs) hown;refine wpList_plain hg fun K' hK'=>?_
  unfold Oper.wp
  simp[execOp,hop,resolve,invoke,builtin,hs,hx,hrun,Result.andThen]
  exact hK' _ _ (hk v W (by simpa using hown) (Below.refl _ _) ⟨rfl,rfl,rfl,Nat.le_refl _,fun _ _ _=>rfl⟩ id)
 |some ad =>
  subst hm;refine wpList_append_own W hg s x K.st hop lo K.ty i0 z0 K.sz i0.bytes hK.und hin hz0 hz1 rfl hz2 hK.pos v xs.length (K.flat xs) hs hown ad ys.length c (K.flat ys) hx (K.flat_len ys) hz.src (K.flat_one ys) (by unfold maxLen;omega) ?_ hlo ?_
  ·have:(xs.length+ys.length)*i0.bytes≤4194304*4096:=Nat.mul_le_mul hl hz3
   omega
  ·intro v' w' ho hgr hnil;refine hk v' w' ?_ (hown.belowG hgr hlo) hgr fun hv e=>hv (hnil.1 e).1
   unfold Kind.Own
   rw[K.flat_app,List.length_append];exact ho
theorem Kt{w:World}{g lo:Nat}{xs:List α}{cs:List Value}(hg:w.heap[g]? = some (.cells cs.toArray K.ty (0,0)))(he:cs=K.flat xs)(hb:lo≤g)(hl:xs.length≤4194304):w.ownsRow lo K.ty K.sz (.slice (some ⟨g,0,none⟩) xs.length xs.length) xs.length (K.flat xs):=by
 subst he;exact⟨K.flat_len xs,.inr ⟨g,xs.length,(K.flat xs).toArray,rfl,hb,hg,Nat.le_refl _,by unfold maxLen;omega,by simp[K.flat_len],by simp[List.take_of_length_le,K.flat_len]⟩⟩
theorem Uy [Inhabited α] (hK:K.Ok) {w w1:World} {g N n cap m:Nat} {ty:TypeId} {ao:Option Addr} {cur:List Value} {xs:List α} (hcur:w1.heap[g]? = some (.cells cur.toArray K.ty (0,0))) (hcl:cur.length=N*K.sz) (hN:xs.length≤N) (hz:K.In m w ao xs) (hB:Below m w w1) :
  ∃W3:World,(Builtin.copy_ #[K.st,K.st] ty #[.slice (some ⟨g,0,none⟩) N n,.slice ao xs.length cap]).run prog w1=.ok (goInt xs.length) W3∧W3.heap[g]? = some (.cells (K.flat xs++cur.drop (xs.length*K.sz)).toArray K.ty (0,0))∧OnlyAt (some ⟨g,0,none⟩) w1 W3:=by
 have hz1:=hz.below hB
 cases ao with
 |none =>
  have hy:xs=[]:=by rcases hz with h|⟨b,off,e,_⟩;exact h;cases e
  subst hy;exact⟨w1,run_copy_zero (P:=prog) w1 K.st K.st ty K.ty K.sz _ _ _ _ _ _ hK.und hK.size (by simp),by simpa[Kind.flat]using hcur,OnlyAt.refl _ _⟩
 |some ad =>
  refine⟨_,run_copy_part (P:=prog) w1 K.st K.st ty K.ty g N n ad xs.length cap cur.toArray K.ty (K.flat xs) K.sz xs.length hK.und hK.size hcur (Nat.min_eq_left hN) (K.flat_len xs) hz1.src ?_ (K.flat_one xs),?_,?_⟩
  ·rw[K.flat_len];simp only[List.size_toArray,hcl];exact Nat.mul_le_mul_right _ hN
  ·rw[setRow_heap w1 g _ _ K.ty _ hcur,K.flat_len]
  ·exact⟨rfl,rfl,rfl,by simp[World.setRow],fun k hk=>setRow_other w1 g k _ (hk g rfl)⟩
end
def kI:Kind Int:=⟨3,25,1,fun z=>[.int .i64 z],fun _=>rfl,fun a v h=>by simp at h;subst h;rfl⟩
theorem Tryz.info3:(prog.info? 3).map (fun i=>(i.zero,i.size,i.bytes))=some (some (.int .i64 0),1,8):=by kernel_rfl
theorem Vq:kI.Ok:=Pd (K:=kI) underlying25 Tryz.info3 rfl (by decide) (by decide)
theorem Yu(zs:List Int):kI.flat zs=zs.map (Value.int .i64):=by
 induction zs with
 |nil=>rfl
 |cons z r ih=>rw[Vc,ih];rfl
theorem Zo{n:Nat}{W:World}{ao:Option Addr}{zs:List Int}(h:kI.In n W ao zs){k:Nat}(hk:k<zs.length) :
  ∃b off,ao=some ⟨b,off,none⟩∧b<n∧∀j,j<zs.length→W.cell? ⟨b,off+j,none⟩=some (.int .i64 (el zs j)):=by
 obtain⟨b,off,e,hb,hc⟩:=h.pos hk;refine⟨b,off,e,hb,fun j hj=>?_⟩;have:=hc j hj 0 (by decide)
 simpa[kI]using this
theorem To{n:Nat}{W:World}{b off:Nat}{zs:List Int}(hb:b<n)(h:∀j,j<zs.length→W.cell? ⟨b,off+j,none⟩=some (.int .i64 (el zs j))):kI.In n W (some ⟨b,off,none⟩) zs:=by
 refine .inr ⟨b,off,rfl,hb,fun j hj i hi=>?_⟩;have e:i=0:=by have:i<1:=hi;omega
 subst e
 simpa[kI]using h j hj
theorem Kc{n:Nat}{W:World}{p:Nat}{z:Int}(hp:p<n)(h:W.cell? ⟨p,0,none⟩=some (.int .i64 z)):kI.In n W (some ⟨p,0,none⟩) [z]:=by
 refine To hp fun j hj=>?_
 simp at hj;subst hj
 simpa[Kd]using h
end
theorem Zr(n lo hi:Int)(w:World)(b:Bool)(hb:(decide (lo≤n) && decide (n≤hi))=b) :
  Calls prog 72 #[.int .i64 n,.int .i64 lo,.int .i64 hi] w fun e w'=>e=.returned (.bool b)∧w'=w:=by
 subst hb
 by_cases h:lo≤n
 ·go_enter func72,ntmps72;go_wp2;go_ret;exact⟨by simp[*],rfl⟩
 ·have h':decide (lo≤n)=false:=by simpa using h
  go_enter func72,ntmps72;go_wp2;go_ret;exact⟨by simp[*],rfl⟩
def Wr(zs:List Int)(n:Int):Bool:=decide (n∈zs)
theorem hasB_yes{zs:List Int}{n:Int}{k:Nat}(hk:k<zs.length)(h:el zs k=n):Wr zs n=true:=by
 simp only[Wr,decide_eq_true_eq];rw[←h];exact Zl hk
theorem hasB_no{zs:List Int}{n:Int}(h:∀j,j<zs.length→el zs j≠n):Wr zs n=false:=by
 simp only[Wr,decide_eq_false_iff_not];intro hm
 obtain⟨j,hj,e⟩:=Gx hm;exact h j hj e
theorem Lk(n₀:Nat)(ao:Option Addr)(cap:Nat)(zs:List Int)(n:Int)(w:World)(b:Bool)(hl:zs.length≤1048576)(hz:kI.In n₀ w ao zs)(hb:Wr zs n=b) :
  Calls prog 174 #[.slice ao zs.length cap,.int .i64 n] w fun e w'=>e=.returned (.bool b)∧w'=w:=by
 have HB:Zi (Wr zs n=b):=hb;clear hb;go_enter func174,ntmps174;go_wp2
 go_loop [9] (fun i=>∃k:Nat,k≤zs.length∧i=.int .i64 k∧Zi (∀j,j<k→el zs j≠n)) (fun i=>zs.length-(intOf i).toNat)
 case atStart=>exact⟨0,Nat.zero_le _,rfl,fun j hj=>by omega⟩
 case round =>
  obtain⟨k,hk,rfl,hno⟩:=hrel
  by_cases hlt:k<zs.length
  ·obtain⟨b,off,rfl,hb,hc⟩:=Zo hz hlt;have hck:=hc k hlt;clear hc hz;obtain⟨x,hx⟩:=nmd (el zs k);rw[←hx]at hck;have HX:Zi (x=el zs k):=hx;clear hx
   by_cases he:x=n
   ·have he':(x==n)=true:=by simpa using he
    have HY:Zi (Wr zs n=true):=hasB_yes hlt (by rw[←HX.o];exact he);clear he;go_wp2;go_ret;exact⟨Zp (by rw[←HB.o,HY.o]),rfl⟩
   ·have he':(x==n)=false:=by simpa using he
    go_wp2;go_round
    case rel=>exact⟨k+1,by omega,by go_num,fun j hj=>by
     rcases Nat.lt_succ_iff_lt_or_eq.1 hj with h|rfl
     ·exact hno.o j h
     ·rw[←HX.o];exact he⟩
    case measure=>simp[intOf];omega
  ·obtain rfl:k=zs.length:=by omega
   have HN:Zi (Wr zs n=false):=hasB_no hno.o;go_wp2;go_ret;exact⟨Zp (by rw[←HB.o,HN.o]),rfl⟩
def idxI(zs:List Int)(n:Int):Int:=if n∈zs then(zs.idxOf n:Int)else -1
theorem Bv:∀(zs:List Int)(n:Int)(k:Nat),k<zs.length→el zs k=n→(∀j,j<k→el zs j≠n)→zs.idxOf n=k
 | [],n,k,h,_,_=>by simp at h
 |z::r,n,0,_,h,_=>by rw[Kd]at h;subst h;simp
 |z::r,n,k+1,hk,h,hno=>by
  have h0:=hno 0 (by omega);rw[Kd]at h0;rw[Vl]at h;rw[List.idxOf_cons,Bv r n k (by simpa using hk) h (fun j hj=>by have:=hno (j+1) (by omega);rwa [Vl]at this)];have:(z==n)=false:=by simpa using h0
  simp[this]
theorem idxI_yes{zs:List Int}{n:Int}{k:Nat}(hk:k<zs.length)(h:el zs k=n)(hno:∀j,j<k→el zs j≠n):idxI zs n=k:=by
 have:n∈zs:=by rw[←h];exact Zl hk
 rw[idxI,if_pos this,Bv zs n k hk h hno]
theorem idxI_no{zs:List Int}{n:Int}(h:∀j,j<zs.length→el zs j≠n):idxI zs n = -1:=by
 rw[idxI,if_neg];intro hm
 obtain⟨j,hj,e⟩:=Gx hm;exact h j hj e
theorem index_is(n₀:Nat)(ao:Option Addr)(cap:Nat)(zs:List Int)(n:Int)(w:World)(hl:zs.length≤1048576)(hz:kI.In n₀ w ao zs) :
  Calls prog 222 #[.slice ao zs.length cap,.int .i64 n] w fun e w'=>e=.returned (.int .i64 (idxI zs n))∧w'=w:=by
 go_enter func222,ntmps222;go_wp2
 go_loop [8] (fun i=>∃k:Nat,k≤zs.length∧i=.int .i64 k∧Zi (∀j,j<k→el zs j≠n)) (fun i=>zs.length-(intOf i).toNat)
 case atStart=>exact⟨0,Nat.zero_le _,rfl,fun j hj=>by omega⟩
 case round =>
  obtain⟨k,hk,rfl,hno⟩:=hrel
  by_cases hlt:k<zs.length
  ·obtain⟨b,off,rfl,hb,hc⟩:=Zo hz hlt;have hck:=hc k hlt;clear hc hz;obtain⟨x,hx⟩:=nmd (el zs k);rw[←hx]at hck;have HX:Zi (x=el zs k):=hx;clear hx
   by_cases he:x=n
   ·have he':(n==x)=true:=by simpa using he.symm
    have HY:Zi (idxI zs n=k):=idxI_yes hlt (by rw[←HX.o];exact he) hno.o;clear he;go_wp2;go_ret;exact⟨Xc HY.o.symm,rfl⟩
   ·have he':(n==x)=false:=by simpa using fun h:n=x=>he h.symm
    go_wp2;go_round
    case rel=>exact⟨k+1,by omega,by go_num,fun j hj=>by
     rcases Nat.lt_succ_iff_lt_or_eq.1 hj with h|rfl
     ·exact hno.o j h
     ·rw[←HX.o];exact he⟩
    case measure=>simp[intOf];omega
  ·obtain rfl:k=zs.length:=by omega
   have HN:Zi (idxI zs n = -1):=idxI_no hno.o;go_wp2;go_ret;exact⟨Xc HN.o.symm,rfl⟩
theorem idxI_has(zs:List Int)(n:Int):decide (0≤idxI zs n)=Wr zs n:=by
 unfold idxI Wr
 by_cases h:n∈zs
 ·rw[if_pos h];simp[h]
 ·rw[if_neg h];simp[h]
theorem Ux(n₀:Nat)(ao:Option Addr)(cap:Nat)(zs:List Int)(n:Int)(w:World)(b:Bool)(hl:zs.length≤1048576)(hz:kI.In n₀ w ao zs)(hb:Wr zs n=b) :
  Calls prog 200 #[.slice ao zs.length cap,.int .i64 n] w fun e w'=>e=.returned (.bool b)∧w'=w:=by
 subst hb;rw[←idxI_has];have H:=index_is n₀ ao cap zs n w hl hz
 generalize idxI zs n=z at H ⊢
 go_enter func200,ntmps200;go_wp2_with fail;refine H.mono ?_;rintro e w1 ⟨rfl,rfl⟩;go_wp2;go_ret;exact⟨Zp (by simp),rfl⟩
theorem eqIntS_same(ao bo:Option Addr)(cap cap':Nat)(zs:List Int)(w:World)(hl:zs.length≤1048576)(hz:kI.In w.1.size w ao zs)(hz':kI.In w.1.size w bo zs) :
  Calls prog 52 #[.slice ao zs.length cap,.slice bo zs.length cap'] w fun e w'=>e=.returned (.bool true)∧Below w.1.size w w':=by
 have hne:((zs.length:Int) != (zs.length:Int))=false:=by simp
 go_enter func52,ntmps52;go_wp2
 go_loopw [5] (fun i wr=>∃k:Nat,k≤zs.length∧i=.int .i64 k∧Below w.1.size w wr) (fun i _=>zs.length-(intOf i).toNat)
 case atStart=>exact⟨0,Nat.zero_le _,rfl,Below.refl _ _⟩
 case round =>
  obtain⟨k,hk,rfl,hnx⟩:=hrel
  by_cases hlt:k<zs.length
  ·obtain⟨b,off,rfl,hb,hc⟩:=Zo hz hlt;obtain⟨b',off',rfl,hb',hc'⟩:=Zo hz' hlt;have hck:=(hnx.cell (p:=⟨b,off+k,none⟩) hb).trans (hc k hlt);have hck':=(hnx.cell (p:=⟨b',off'+k,none⟩) hb').trans (hc' k hlt);clear hc hz hc' hz';obtain⟨x,hx⟩:=nmd (el zs k);rw[←hx]at hck hck';clear hx;have hxx:(x != x)=false:=by simp
   go_wp2
   go_quiet (fail)
   go_wp2;go_roundw
   case rel=>exact⟨k+1,by omega,by go_num,Zc hnx _⟩
   case measure=>simp[intOf];omega
  ·obtain rfl:k=zs.length:=by omega
   go_wp2;go_ret;exact⟨rfl,hnx⟩
def Dr(k:Int)(n:Nat):List Int:=(List.range n).map (fun i:Nat=>k+(i:Int))
theorem Gw(k:Int)(n:Nat):(Dr k n).length=n:=by simp[Dr]
theorem markI_at(k:Int)(n j:Nat)(h:j<n):el (Dr k n) j=k+(j:Int):=by simp[Dr,el,h]
theorem markIntS_any(lo hi:Nat)(qo:Option Addr)(qc:Nat)(q:List Int)(k0:Int)(w:World)(hl:q.length≤2097152)(hk0:0≤k0)(hk1:k0≤16777216)(hF:kI.Fresh lo hi w qo qc q) :
  Calls prog 47 #[.slice qo q.length qc,.int .i64 k0] w fun e w'=>e=.returned (.int .i64 (k0+q.length))∧kI.Fresh lo hi w' qo qc (Dr k0 q.length)∧OnlyAt (eff qo q.length) w w':=by
 rcases Nat.eq_zero_or_pos q.length with h0|h0
 ·obtain rfl:q=[]:=List.length_eq_zero_iff.1 h0;go_enter func47,ntmps47;go_wp2
  go_loop [1,5] (fun v i=>v=.int .i64 k0∧i=.int .i64 0) (fun _ _=>0)
  case atStart=>exact⟨rfl,rfl⟩
  case round =>
   obtain⟨rfl,rfl⟩:=hrel;go_wp2;go_ret;exact⟨by simp,.inl (by simp[Dr]),OnlyAt.refl _ _⟩
 ·rw[eff_pos h0];obtain⟨g,rfl,_,hg,_,ho⟩:=hF.at h0;have HO:Zi (w.ownsRow lo 3 1 (.slice (some ⟨g,0,none⟩) q.length qc) q.length (kI.flat q)):=ho;clear ho;go_enter func47,ntmps47;go_wp2
  go_loopw [1,5] (fun v i wr=>∃(k:Nat)(xs:List Value),k≤q.length∧i=.int .i64 k∧v=.int .i64 (k0+k)∧Zi (wr.ownsRow lo 3 1 (.slice (some ⟨g,0,none⟩) q.length qc) q.length xs∧∀j:Nat,j<k→xs[j]? = some (.int .i64 (k0+j)))∧OnlyAt (some ⟨g,0,none⟩) w wr) (fun _ i _=>q.length-(intOf i).toNat)
  case atStart=>exact⟨0,_,Nat.zero_le _,rfl,by simp,⟨HO.o,fun j hj=>by omega⟩,OnlyAt.refl _ _⟩
  case round =>
   obtain⟨k,xs,hk,rfl,rfl,ho,hnx⟩:=hrel
   by_cases hlt:k<q.length
   ·have hxl:k<xs.length:=by rw[ho.o.1.1];omega
    have hst:wr.cell? ⟨g,k,none⟩=some xs[k]:=(ho.o.1.cellAt k (by omega)).trans (by simp[hxl]);have hfr:wr.frozen? ⟨g,k,none⟩=false:=ho.o.1.frozenAt k;go_wp2;go_roundw
    case rel=>exact⟨k+1,xs.set k (.int .i64 (k0+k)),by omega,by go_num,by go_num,⟨(ho.o.1.stored k _).1,fun j hj=>by
     rw[List.getElem?_set]
     rcases Nat.lt_succ_iff_lt_or_eq.1 hj with h|rfl
     ·rw[if_neg (by omega)];exact ho.o.2 j h
     ·rw[if_pos rfl,if_pos hxl]⟩,hnx.trans (OnlyAt.set g k _ _)⟩
    case measure=>simp[intOf];omega
   ·obtain rfl:k=q.length:=by omega
    have hxs:xs=kI.flat (Dr k0 q.length):=by
     refine kI.flat_of xs _ (by rw[Gw];exact ho.o.1.1) fun j hj i hi=>?_
     have e:i=0:=by have:i<1:=hi;omega
     subst e;rw[Gw]at hj;rw[markI_at _ _ _ hj]
     simpa[kI]using ho.o.2 j hj
    subst hxs;go_wp2;go_ret;refine⟨rfl,.inr ⟨g,rfl,hg,?_⟩,hnx⟩;rw[Gw];exact ho.o.1
theorem heldIntS_any(qo:Option Addr)(qc:Nat)(n:Nat)(k0:Int)(w:World)(hl:n≤2097152)(hk0:0≤k0)(hk1:k0≤16777216)(hF:kI.In w.1.size w qo (Dr k0 n)) :
  Calls prog 48 #[.slice qo n qc,.int .i64 k0] w fun e w'=>e=.returned (.int .i64 (k0+n))∧w'=w:=by
 go_enter func48,ntmps48;go_wp2
 go_loop [1,5] (fun v i=>∃k:Nat,k≤n∧i=.int .i64 k∧v=.int .i64 (k0+k)) (fun _ i=>n-(intOf i).toNat)
 case atStart=>exact⟨0,Nat.zero_le _,rfl,by simp⟩
 case round =>
  obtain⟨k,hk,rfl,rfl⟩:=hrel
  by_cases hlt:k<n
  ·obtain⟨b,off,rfl,hb,hc⟩:=Zo hF (k:=k) (by rw[Gw];exact hlt);have hck:=hc k (by rw[Gw];exact hlt);rw[markI_at _ _ _ hlt]at hck;clear hc hF;have hne:(k0+(k:Int) != k0+(k:Int))=false:=by simp
   go_wp2;go_round
   case rel=>exact⟨k+1,by omega,by go_num,by go_num⟩
   case measure=>simp[intOf];omega
  ·obtain rfl:k=n:=by omega
   go_wp2;go_ret;exact⟨rfl,rfl⟩
def Bx(W:World)(p:Nat)(us:List Value):Prop:=p<W.1.size∧∀i v,us[i]? = some v→W.cell? ⟨p,i,none⟩=some v∧W.frozen? ⟨p,i,none⟩=false
theorem Bx.new{w:World}{p:Nat}(us:List Value)(t:TypeId)(hp:w.1.size=p):Bx (w.alloc (.cells us.toArray t)) p us:=by
 subst hp;refine⟨by simp,fun i v h=>⟨?_,by simp[go_sem]⟩⟩;rw[World.cell?_alloc_at (hn:=rfl)]
 simpa using h
theorem Bx.c{W:World}{p:Nat}{us:List Value}(h:Bx W p us)(i:Nat){v:Value}(e:us[i]? = some v):W.cell? ⟨p,i,none⟩=some v:=(h.2 i v e).1
theorem Bx.f{W:World}{p:Nat}{us:List Value}(h:Bx W p us)(i:Nat){v:Value}(e:us[i]? = some v):W.frozen? ⟨p,i,none⟩=false:=(h.2 i v e).2
theorem Bx.keep{W W':World}{p:Nat}{us:List Value}(h:Bx W p us)(hs:W.1.size≤W'.1.size)(hb:W'.heap[p]? = W.heap[p]?):Bx W' p us :=
 ⟨Nat.lt_of_lt_of_le h.1 hs,fun i v e=>⟨(World.cell?_of_block (a:=⟨p,i,none⟩) hb).trans (h.2 i v e).1,(World.frozen?_of_block (a:=⟨p,i,none⟩) hb).trans (h.2 i v e).2⟩⟩
theorem Bx.later{W W':World}{p:Nat}{us:List Value}(h:Bx W p us)(hb:Below W.1.size W W'):Bx W' p us:=h.keep hb.size (hb.block p h.1)
theorem Bx.below{n:Nat}{W W':World}{p:Nat}{us:List Value}(h:Bx W p us)(hb:Below n W W')(hp:p<n):Bx W' p us:=h.keep hb.size (hb.block p hp)
theorem Bx.between{lo hi:Nat}{W W':World}{p:Nat}{us:List Value}(h:Bx W p us)(hb:Between lo hi W W')(hp:p<lo∨hi≤p):Bx W' p us:=h.keep hb.size (hb.block p h.1 hp)
theorem Bx.alloc{W:World}{p:Nat}{us:List Value}(h:Bx W p us)(o:Obj):Bx (W.alloc o) p us:=h.later (Zk W o)
theorem Bx.drew{W:World}{p:Nat}{us:List Value}(h:Bx W p us):Bx W.drew p us:=h
theorem Bx.other{W:World}{p:Nat}{us:List Value}(h:Bx W p us){a:Addr}(ha:a.block≠p)(u:Value):Bx (W.setCell a u) p us :=
 h.keep (by simp[World.setCell]) (Below.heap_setCell W a u p (fun e=>ha e.symm))
theorem Bx.set{W:World}{p:Nat}{us:List Value}(h:Bx W p us)(i:Nat)(u:Value):Bx (W.setCell ⟨p,i,none⟩ u) p (us.set i u):=by
 refine⟨by simpa using h.1,fun j v e=>?_⟩;rw[List.getElem?_set]at e;rw[World.frozen?_setCell]
 split at e
 ·rename_i hij;subst hij
  split at e
  ·rename_i hlt
   cases e
   have hq:us[i]? = some us[i]:=by simp[hlt]
   exact⟨World.cell?_setCell_same' _ _ _ (by rw[h.c i hq];rfl),h.f i hq⟩
  ·cases e
 ·rename_i hij;exact⟨by rw[World.cell?_setCell_other _ _ _ _ (by simp)];exact h.c j e,h.f j e⟩
theorem Bx.size{W:World}{p:Nat}{us:List Value}(h:Bx W p us):p<W.1.size:=h.1
theorem Bx.y3{W:World}{p:Nat}{a0 a1 a2:Value}(h:Bx W p [a0,a1,a2]):W.cell? ⟨p,0,none⟩=some a0∧W.cell? ⟨p,1,none⟩=some a1∧W.cell? ⟨p,2,none⟩=some a2:=⟨h.c 0 rfl,h.c 1 rfl,h.c 2 rfl⟩
theorem Bx.y4{W:World}{p:Nat}{a0 a1 a2 a3:Value}(h:Bx W p [a0,a1,a2,a3]):W.cell? ⟨p,0,none⟩=some a0∧W.cell? ⟨p,1,none⟩=some a1∧W.cell? ⟨p,2,none⟩=some a2∧W.cell? ⟨p,3,none⟩=some a3:=⟨h.c 0 rfl,h.c 1 rfl,h.c 2 rfl,h.c 3 rfl⟩
theorem Bx.y6{W:World}{p:Nat}{a0 a1 a2 a3 a4 a5:Value}(h:Bx W p [a0,a1,a2,a3,a4,a5]):W.cell? ⟨p,0,none⟩=some a0∧W.cell? ⟨p,1,none⟩=some a1∧W.cell? ⟨p,2,none⟩=some a2∧W.cell? ⟨p,3,none⟩=some a3∧W.cell? ⟨p,4,none⟩=some a4∧W.cell? ⟨p,5,none⟩=some a5:=⟨h.c 0 rfl,h.c 1 rfl,h.c 2 rfl,h.c 3 rfl,h.c 4 rfl,h.c 5 rfl⟩
theorem Bx.y7{W:World}{p:Nat}{a0 a1 a2 a3 a4 a5 a6:Value}(h:Bx W p [a0,a1,a2,a3,a4,a5,a6]):W.cell? ⟨p,0,none⟩=some a0∧W.cell? ⟨p,1,none⟩=some a1∧W.cell? ⟨p,2,none⟩=some a2∧W.cell? ⟨p,3,none⟩=some a3∧W.cell? ⟨p,4,none⟩=some a4∧W.cell? ⟨p,5,none⟩=some a5∧W.cell? ⟨p,6,none⟩=some a6:=⟨h.c 0 rfl,h.c 1 rfl,h.c 2 rfl,h.c 3 rfl,h.c 4 rfl,h.c 5 rfl,h.c 6 rfl⟩
theorem bbs{n:Nat}{w w1:World}{p:Addr}(h:Below n w w1){u:Value}(hp:n≤p.block:=by first|exact Nat.le_refl _|(dsimp only;omega)|omega):Below n w (w1.setCell p u):=h.setCell hp u
theorem Bx.x1{W:World}{p:Nat}{a0:Value}(h:Bx W p [a0]):W.cell? ⟨p,0,none⟩=some a0∧W.frozen? ⟨p,0,none⟩=false∧p<W.1.size:=⟨h.c 0 rfl,h.f 0 rfl,h.1⟩
theorem Bx.x2{W:World}{p:Nat}{a0 a1:Value}(h:Bx W p [a0,a1]):W.cell? ⟨p,0,none⟩=some a0∧W.frozen? ⟨p,0,none⟩=false∧W.cell? ⟨p,1,none⟩=some a1∧W.frozen? ⟨p,1,none⟩=false∧p<W.1.size:=⟨h.c 0 rfl,h.f 0 rfl,h.c 1 rfl,h.f 1 rfl,h.1⟩
theorem Bx.x3{W:World}{p:Nat}{a0 a1 a2:Value}(h:Bx W p [a0,a1,a2]):W.cell? ⟨p,0,none⟩=some a0∧W.frozen? ⟨p,0,none⟩=false∧W.cell? ⟨p,1,none⟩=some a1∧W.frozen? ⟨p,1,none⟩=false∧W.cell? ⟨p,2,none⟩=some a2∧W.frozen? ⟨p,2,none⟩=false∧p<W.1.size:=⟨h.c 0 rfl,h.f 0 rfl,h.c 1 rfl,h.f 1 rfl,h.c 2 rfl,h.f 2 rfl,h.1⟩
theorem Bx.x4{W:World}{p:Nat}{a0 a1 a2 a3:Value}(h:Bx W p [a0,a1,a2,a3]):W.cell? ⟨p,0,none⟩=some a0∧W.frozen? ⟨p,0,none⟩=false∧W.cell? ⟨p,1,none⟩=some a1∧W.frozen? ⟨p,1,none⟩=false∧W.cell? ⟨p,2,none⟩=some a2∧W.frozen? ⟨p,2,none⟩=false∧W.cell? ⟨p,3,none⟩=some a3∧W.frozen? ⟨p,3,none⟩=false∧p<W.1.size:=⟨h.c 0 rfl,h.f 0 rfl,h.c 1 rfl,h.f 1 rfl,h.c 2 rfl,h.f 2 rfl,h.c 3 rfl,h.f 3 rfl,h.1⟩
theorem Bx.x5{W:World}{p:Nat}{a0 a1 a2 a3 a4:Value}(h:Bx W p [a0,a1,a2,a3,a4]):W.cell? ⟨p,0,none⟩=some a0∧W.frozen? ⟨p,0,none⟩=false∧W.cell? ⟨p,1,none⟩=some a1∧W.frozen? ⟨p,1,none⟩=false∧W.cell? ⟨p,2,none⟩=some a2∧W.frozen? ⟨p,2,none⟩=false∧W.cell? ⟨p,3,none⟩=some a3∧W.frozen? ⟨p,3,none⟩=false∧W.cell? ⟨p,4,none⟩=some a4∧W.frozen? ⟨p,4,none⟩=false∧p<W.1.size:=⟨h.c 0 rfl,h.f 0 rfl,h.c 1 rfl,h.f 1 rfl,h.c 2 rfl,h.f 2 rfl,h.c 3 rfl,h.f 3 rfl,h.c 4 rfl,h.f 4 rfl,h.1⟩
theorem Bx.x6{W:World}{p:Nat}{a0 a1 a2 a3 a4 a5:Value}(h:Bx W p [a0,a1,a2,a3,a4,a5]):W.cell? ⟨p,0,none⟩=some a0∧W.frozen? ⟨p,0,none⟩=false∧W.cell? ⟨p,1,none⟩=some a1∧W.frozen? ⟨p,1,none⟩=false∧W.cell? ⟨p,2,none⟩=some a2∧W.frozen? ⟨p,2,none⟩=false∧W.cell? ⟨p,3,none⟩=some a3∧W.frozen? ⟨p,3,none⟩=false∧W.cell? ⟨p,4,none⟩=some a4∧W.frozen? ⟨p,4,none⟩=false∧W.cell? ⟨p,5,none⟩=some a5∧W.frozen? ⟨p,5,none⟩=false∧p<W.1.size:=⟨h.c 0 rfl,h.f 0 rfl,h.c 1 rfl,h.f 1 rfl,h.c 2 rfl,h.f 2 rfl,h.c 3 rfl,h.f 3 rfl,h.c 4 rfl,h.f 4 rfl,h.c 5 rfl,h.f 5 rfl,h.1⟩
theorem Bx.x7{W:World}{p:Nat}{a0 a1 a2 a3 a4 a5 a6:Value}(h:Bx W p [a0,a1,a2,a3,a4,a5,a6]):W.cell? ⟨p,0,none⟩=some a0∧W.frozen? ⟨p,0,none⟩=false∧W.cell? ⟨p,1,none⟩=some a1∧W.frozen? ⟨p,1,none⟩=false∧W.cell? ⟨p,2,none⟩=some a2∧W.frozen? ⟨p,2,none⟩=false∧W.cell? ⟨p,3,none⟩=some a3∧W.frozen? ⟨p,3,none⟩=false∧W.cell? ⟨p,4,none⟩=some a4∧W.frozen? ⟨p,4,none⟩=false∧W.cell? ⟨p,5,none⟩=some a5∧W.frozen? ⟨p,5,none⟩=false∧W.cell? ⟨p,6,none⟩=some a6∧W.frozen? ⟨p,6,none⟩=false∧p<W.1.size:=⟨h.c 0 rfl,h.f 0 rfl,h.c 1 rfl,h.f 1 rfl,h.c 2 rfl,h.f 2 rfl,h.c 3 rfl,h.f 3 rfl,h.c 4 rfl,h.f 4 rfl,h.c 5 rfl,h.f 5 rfl,h.c 6 rfl,h.f 6 rfl,h.1⟩
theorem Bx.x8{W:World}{p:Nat}{a0 a1 a2 a3 a4 a5 a6 a7:Value}(h:Bx W p [a0,a1,a2,a3,a4,a5,a6,a7]):W.cell? ⟨p,0,none⟩=some a0∧W.frozen? ⟨p,0,none⟩=false∧W.cell? ⟨p,1,none⟩=some a1∧W.frozen? ⟨p,1,none⟩=false∧W.cell? ⟨p,2,none⟩=some a2∧W.frozen? ⟨p,2,none⟩=false∧W.cell? ⟨p,3,none⟩=some a3∧W.frozen? ⟨p,3,none⟩=false∧W.cell? ⟨p,4,none⟩=some a4∧W.frozen? ⟨p,4,none⟩=false∧W.cell? ⟨p,5,none⟩=some a5∧W.frozen? ⟨p,5,none⟩=false∧W.cell? ⟨p,6,none⟩=some a6∧W.frozen? ⟨p,6,none⟩=false∧W.cell? ⟨p,7,none⟩=some a7∧W.frozen? ⟨p,7,none⟩=false∧p<W.1.size:=⟨h.c 0 rfl,h.f 0 rfl,h.c 1 rfl,h.f 1 rfl,h.c 2 rfl,h.f 2 rfl,h.c 3 rfl,h.f 3 rfl,h.c 4 rfl,h.f 4 rfl,h.c 5 rfl,h.f 5 rfl,h.c 6 rfl,h.f 6 rfl,h.c 7 rfl,h.f 7 rfl,h.1⟩
end Go.Proofs.YtdacedbfnlkghaaGreatDoor