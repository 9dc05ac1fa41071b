/- Reaching in a graph, plainly. Orders and rounds, plainly. A queue of ints in memory of its own: its head taken, others put behind. Whether a node is reached: the specification. No conditions but those written. -/
import Derived.Test.YtdacedbfnlkghaaGreatDoorUZwFp
import Derived.Deep.AppendSrc
import Derived.Lib.EndianMore
import Derived.Deep.Upon
namespace Go.Proofs.YtdacedbfnlkghaaGreatDoor
set_option maxHeartbeats 16000000
set_option maxRecDepth 10000
open Go.RowKit Go.Proofs.Tryz
def nxP(gs:List PNode)(a:Nat):List Int:=(el gs a).2.2.2.2.2
inductive Rch (gs:List PNode):Nat→Nat→Prop
  |one {a b:Nat}:((b:Nat):Int)∈nxP gs a→Rch gs a b
  |more {a b c:Nat}:Rch gs a b→((c:Nat):Int)∈nxP gs b→Rch gs a c
structure EdgesIn(gs:List PNode):Prop where
 rng:∀a,a<gs.length→∀x∈nxP gs a,∃j:Nat,j<gs.length∧x=(j:Int)
 few:∀a,a<gs.length→(nxP gs a).length≤10
 many:gs.length≤10
structure Bfs(gs:List PNode)(f:Nat)(t:Int)(todo:List Int)(sn:List Bool):Prop where
 len:sn.length=gs.length
 way:∀x∈todo,∃j:Nat,j<gs.length∧x=(j:Int)∧Rch gs f j
 ns:∀j,el sn j=true→(j:Int)≠t
 fst:∀x∈nxP gs f,x∈todo∨el sn x.toNat=true
 nxt:∀j,j<gs.length→el sn j=true→∀x∈nxP gs j,x∈todo∨el sn x.toNat=true
theorem Bfs.start{gs:List PNode}{f:Nat}{t:Int}(hE:EdgesIn gs)(hf:f<gs.length):Bfs gs f t (nxP gs f) (List.replicate gs.length false) where
 len:=by simp
 way x hx:=by
  obtain⟨j,hj,rfl⟩:=hE.rng f hf x hx;exact⟨j,hj,rfl,.one hx⟩
 ns j hj:=by
  simp only[el,List.getElem?_replicate]at hj
  split at hj <;> simp at hj
 fst x hx:=.inl hx
 nxt j _ hj:=by
  simp only[el,List.getElem?_replicate]at hj
  split at hj <;> simp at hj
theorem Bfs.hit{gs:List PNode}{f j:Nat}{t:Int}{r:List Int}{sn:List Bool}(h:Bfs gs f t (t::r) sn)(e:t=(j:Int)):Rch gs f j:=by
 obtain⟨k,_,e2,hr⟩:=h.way t (by simp);have:k=j:=by omega
 subst this;exact hr
theorem Bfs.skip{gs:List PNode}{f:Nat}{t x:Int}{r:List Int}{sn:List Bool}(h:Bfs gs f t (x::r) sn)(hx:el sn x.toNat=true):Bfs gs f t r sn where
 len:=h.len
 way y hy:=h.way y (by simp[hy])
 ns:=h.ns
 fst y hy:=by
  rcases h.fst y hy with h1|h1
  ·rcases List.mem_cons.1 h1 with rfl|h2
   ·exact .inr hx
   ·exact .inl h2
  ·exact .inr h1
 nxt j hj hs y hy:=by
  rcases h.nxt j hj hs y hy with h1|h1
  ·rcases List.mem_cons.1 h1 with rfl|h2
   ·exact .inr hx
   ·exact .inl h2
  ·exact .inr h1
theorem el_setB{l:List Bool}{i j:Nat}(h:i<l.length):el (l.set i true) j=if j=i then true else el l j:=by
 by_cases e:j=i
 ·subst e;simp[el,h]
 ·rw[if_neg e];simp[el,Ne.symm e]
theorem Bfs.mark{gs:List PNode}{f k:Nat}{t:Int}{r:List Int}{sn:List Bool}(hE:EdgesIn gs)(h:Bfs gs f t ((k:Int)::r) sn)(hk:k<gs.length)(hne:(k:Int)≠t):Bfs gs f t (r++nxP gs k) (sn.set k true) where
 len:=by rw[List.length_set];exact h.len
 way y hy:=by
  rcases List.mem_append.1 hy with h1|h1
  ·exact h.way y (by simp[h1])
  ·obtain⟨j,hj,rfl⟩:=hE.rng k hk y h1;obtain⟨k',_,e,hr⟩:=h.way (k:Int) (by simp);have:k'=k:=by omega
   subst this;exact⟨j,hj,rfl,.more hr h1⟩
 ns j hj:=by
  rw[el_setB (by rw[h.len];exact hk)]at hj
  split at hj
  ·subst_vars;exact hne
  ·exact h.ns j hj
 fst y hy:=by
  rw[el_setB (by rw[h.len];exact hk)]
  rcases h.fst y hy with h1|h1
  ·rcases List.mem_cons.1 h1 with rfl|h2
   ·right;simp
   ·left;simp[h2]
  ·right;split
   ·rfl
   ·exact h1
 nxt j hj hs y hy:=by
  rw[el_setB (by rw[h.len];exact hk)]at hs ⊢
  by_cases e:j=k
  ·subst e;left;simp[hy]
  ·rw[if_neg e]at hs
   rcases h.nxt j hj hs y hy with h1|h1
   ·rcases List.mem_cons.1 h1 with rfl|h2
    ·right;simp
    ·left;simp[h2]
   ·right;split
    ·rfl
    ·exact h1
theorem Rch.lt{gs:List PNode}{a b:Nat}(hE:EdgesIn gs)(h:Rch gs a b)(ha:a<gs.length):b<gs.length:=by
 induction h with
 |one h=>obtain⟨j,hj,e⟩:=hE.rng _ ha _ h;omega
 |more _ h ih=>obtain⟨j,hj,e⟩:=hE.rng _ ih _ h;omega
theorem Bfs.done{gs:List PNode}{f:Nat}{j:Nat}{sn:List Bool}(hE:EdgesIn gs)(hf:f<gs.length)(h:Bfs gs f (j:Int) [] sn):¬Rch gs f j:=by
 have hall:∀b,Rch gs f b→el sn b=true:=by
  intro b hb
  induction hb with
  |one h1 =>
   rcases h.fst _ h1 with h2|h2
   ·cases h2
   ·simpa using h2
  |more h1 h2 ih =>
   rcases h.nxt _ (h1.lt hE hf) ih _ h2 with h3|h3
   ·cases h3
   ·simpa using h3
 intro hr;exact h.ns j (hall j hr) rfl
def Ng(todo:List Int)(sn:List Bool):Nat:=todo.length+11*sn.count false
theorem count_mark{sn:List Bool}{k:Nat}(hk:k<sn.length)(h:el sn k=false):(sn.set k true).count false+1=sn.count false:=by
 induction sn generalizing k with
 |nil=>simp at hk
 |cons x r ih =>
  cases k with
  |zero=>rw[Kd]at h;subst h;simp
  |succ k =>
   rw[Vl]at h;have:=ih (by simpa using hk) h;simp only[List.set_cons_succ,List.count_cons];omega
theorem pigeon:∀(n:Nat)(l:List Int),l.Nodup→(∀x∈l,0≤x∧x<(n:Int))→l.length≤n
 |0,l,_,h=>by
  cases l with
  |nil=>simp
  |cons x r=>have:=h x (by simp);omega
 |n+1,l,hn,h=>by
  have h1:=pigeon n (l.erase (n:Int)) (hn.erase _) (fun x hx=>by
   rw[List.Nodup.mem_erase_iff hn]at hx;have:=h x hx.2
   omega)
  have h2:=List.length_erase (a:=(n:Int)) (l:=l)
  split at h2 <;> omega
theorem Rch.trans{gs:List PNode}{a b c:Nat}(h1:Rch gs a b)(h2:Rch gs b c):Rch gs a c:=by
 induction h2 with
 |one h=>exact .more h1 h
 |more _ h ih=>exact .more ih h
theorem Fu{gs:List PNode}{a b:Nat}:Gy gs (a:Int) (b:Int)=true↔((b:Nat):Int)∈nxP gs a:=by
 simp[Gy,Wr,nxP]
theorem Rk{n k:Nat}(h:k<n):(k:Int)∈Qh n:=by
 simp only[Qh,List.mem_map,List.mem_range];exact⟨k,h,rfl⟩
theorem mem_cut{l:List Int}{k:Nat}{x:Int}(hx:x∈l)(hk:k<l.length)(hne:x≠el l k):x∈l.take k++l.drop (k+1):=by
 rw[←List.take_append_drop k l,List.drop_eq_getElem_cons hk]at hx
 rcases List.mem_append.1 hx with h|h
 ·exact List.mem_append.2 (.inl h)
 ·rcases List.mem_cons.1 h with h|h
  ·rw[Km hk]at hne;exact absurd h hne
  ·exact List.mem_append.2 (.inr h)
theorem cut_mem{l:List Int}{k:Nat}{x:Int}(hx:x∈l.take k++l.drop (k+1)):x∈l:=by
 rcases List.mem_append.1 hx with h|h
 ·exact List.mem_of_mem_take h
 ·exact List.mem_of_mem_drop h
theorem cut_len{l:List Int}{k:Nat}(hk:k<l.length):(l.take k++l.drop (k+1)).length+1=l.length:=by simp;omega
theorem Uv(gs:List PNode):∀(n:Nat)(o l:List Int),l.length≤n→
  (Qb gs n o l).1.length+(Qb gs n o l).2.length=o.length+l.length∧
  (∀x∈(Qb gs n o l).2,x∈l∧Hf gs (Qb gs n o l).2 x=true)
 |0,o,l,h=>by
  have:l=[]:=List.length_eq_zero_iff.1 (by omega);subst this;exact⟨rfl,fun x hx=>by simp[Qb]at hx⟩
 |n+1,o,l,h=>by
  rw[Qb]
  cases hp:l.findIdx? (fun b => !Hf gs l b)with
  |none =>
   refine⟨rfl,fun x hx=>⟨hx,?_⟩⟩;rw[List.findIdx?_eq_none_iff]at hp;have:=hp x hx
   simpa using this
  |some k =>
   have hk:k<l.length:=by rw[List.findIdx?_eq_some_iff_getElem]at hp;exact hp.1
   have hc:=cut_len hk;have ih:=Uv gs n (o++[el l k]) (l.take k++l.drop (k+1)) (by omega);refine⟨?_,fun x hx=>⟨cut_mem (ih.2 x hx).1,(ih.2 x hx).2⟩⟩;have:=ih.1;simp only[List.length_append,List.length_singleton]at this hc ⊢
   omega
theorem Rt(gs:List PNode){i:Nat}(hi:Rch gs i i):∀(n:Nat)(o l:List Int),(∀c,Rch gs i c→Rch gs c i→(c:Int)∈l)→(∀x∈l,∃k:Nat,x=(k:Int))→∀c,Rch gs i c→Rch gs c i→(c:Int)∈(Qb gs n o l).2
 |0,o,l,h,_=>h
 |n+1,o,l,h,hv=>by
  rw[Qb]
  cases hp:l.findIdx? (fun b => !Hf gs l b)with
  |none=>exact h
  |some k =>
   rw[List.findIdx?_eq_some_iff_getElem]at hp;obtain⟨hk,hb,_⟩:=hp;refine Rt gs hi n (o++[el l k]) (l.take k++l.drop (k+1)) (fun c h1 h2=>mem_cut (h c h1 h2) hk fun e=>?_) (fun x hx=>hv x (cut_mem hx))
   -- it is led by one of the round
   rw[←Km hk,←e]at hb;have hled:Hf gs l (c:Int)=true:=by
    obtain⟨b,hib,hbi,hbc⟩:∃b,Rch gs i b∧Rch gs b i∧((c:Nat):Int)∈nxP gs b:=by
     cases h1 with
     |one h3=>exact⟨i,hi,hi,h3⟩
     |more h3 h4=>exact⟨_,h3,(Rch.one h4).trans h2,h4⟩
    rw[Hf,List.any_eq_true];exact⟨(b:Int),h b hib hbi,Fu.2 hbc⟩
   rw[hled]at hb
   cases hb
theorem way_back{gs:List PNode}{s:Nat→Nat}(hs:∀k,((s k:Nat):Int)∈nxP gs (s (k+1))):∀(d k:Nat),Rch gs (s (k+d+1)) (s k)
 |0,k=>.one (hs k)
 |d+1,k=>by
  have h:=way_back hs d (k+1);rw[show k+1+d+1=k+(d+1)+1 by omega]at h;exact h.trans (.one (hs k))
theorem round_of_led{gs:List PNode}{l:List Int}(hne:l≠[])(hv:∀x∈l,∃k:Nat,k<gs.length∧x=(k:Int))(hl:∀x∈l,Hf gs l x=true):∃i,i<gs.length∧Rch gs i i:=by
 have hpred:∀k:Nat,(k:Int)∈l→∃a:Nat,(a:Int)∈l∧((k:Nat):Int)∈nxP gs a:=fun k hk=>by
  have h:=hl _ hk;rw[Hf,List.any_eq_true]at h;obtain⟨x,hx,h⟩:=h;obtain⟨a,_,rfl⟩:=hv x hx;exact⟨a,hx,Fu.1 h⟩
 obtain⟨x0,hx0⟩:∃x0,x0∈l:=by
  cases l with
  |nil=>exact absurd rfl hne
  |cons x r=>exact⟨x,by simp⟩
 obtain⟨k0,hk0,rfl⟩:=hv x0 hx0;have hch:∀k:Nat,∃a:Nat,(k:Int)∈l→((a:Int)∈l∧((k:Nat):Int)∈nxP gs a):=fun k=>by
  by_cases h:(k:Int)∈l
  ·obtain⟨a,ha⟩:=hpred k h;exact⟨a,fun _=>ha⟩
  ·exact⟨0,fun h'=>absurd h' h⟩
 obtain⟨s,hs0,hs1⟩:∃s:Nat→Nat,s 0=k0∧∀k,s (k+1)=Classical.choose (hch (s k)):=⟨fun n=>Nat.rec k0 (fun _ x=>Classical.choose (hch x)) n,rfl,fun _=>rfl⟩;have hsl:∀k,((s k:Nat):Int)∈l:=fun k=>by
  induction k with
  |zero=>rw[hs0];exact hx0
  |succ k ih=>rw[hs1];exact(Classical.choose_spec (hch (s k)) ih).1
 have hse:∀k,((s k:Nat):Int)∈nxP gs (s (k+1)):=fun k=>by rw[hs1];exact(Classical.choose_spec (hch (s k)) (hsl k)).2
 have hlt:∀k,s k<gs.length:=fun k=>by
  obtain⟨a,ha,e⟩:=hv _ (hsl k)
  omega
 have hnd:¬((List.range (gs.length+1)).map fun k=>((s k:Nat):Int)).Nodup:=fun h=>by
  have:=pigeon gs.length _ h (fun x hx=>by
   obtain⟨k,_,rfl⟩:=List.mem_map.1 hx;have:=hlt k
   omega)
  rw[List.length_map,List.length_range]at this
  omega
 have hex:∃i j,i<j∧s i=s j:=by
  refine Classical.byContradiction fun hno=>hnd ?_
  rw[List.Nodup,List.pairwise_map,List.pairwise_iff_getElem];intro i j hi hj hij e;simp only[List.getElem_range]at e;exact hno ⟨i,j,hij,by omega⟩
 obtain⟨i,j,hij,e⟩:=hex;have hw:=way_back hse (j-i-1) i;rw[show i+(j-i-1)+1=j by omega,←e]at hw;exact⟨s i,hlt i,hw⟩
theorem Mk{gs:List PNode}(hE:EdgesIn gs):(Zv gs).length<gs.length↔∃i,i<gs.length∧Rch gs i i:=by
 have hf:=Uv gs gs.length [] (Qh gs.length) (by rw[Qd];exact Nat.le_refl _);have hlen:=hf.1;rw[Qd]at hlen;simp only[List.length_nil]at hlen
 constructor
 ·intro h;refine round_of_led (l:=(Qb gs gs.length [] (Qh gs.length)).2) (fun e=>?_) (fun x hx=>Xd (hf.2 x hx).1) (fun x hx=>(hf.2 x hx).2);rw[e]at hlen
  unfold Zv at h
  simp at hlen
  omega
 ·rintro⟨i,hi,hr⟩;have h:=Rt gs hr gs.length [] (Qh gs.length) (fun c h1 _=>Rk (h1.lt hE hi)) (fun x hx=>by obtain⟨k,_,e⟩:=Xd hx;exact⟨k,e⟩) i hr hr;have:0<(Qb gs gs.length [] (Qh gs.length)).2.length:=List.length_pos_of_mem h
  unfold Zv
  omega
def Qu(lo:Nat)(W:World)(v:Value)(xs:List Int):Prop :=
 ∃g off cap,v=.slice (some ⟨g,off,none⟩) xs.length cap∧lo≤g∧g<W.1.size∧xs.length≤cap∧(∀j,j<cap→(W.cell? ⟨g,off+j,none⟩).isSome=true∧W.frozen? ⟨g,off+j,none⟩=false)∧∀j,j<xs.length→W.cell? ⟨g,off+j,none⟩=some (.int .i64 (el xs j))
def Px:Value→Option Nat| .slice (some a) _ _=>some a.block|_=>none
theorem Qu.keep{lo:Nat}{W W':World}{v:Value}{xs:List Int}(h:Qu lo W v xs)(hs:W.1.size≤W'.1.size)(hb:∀g,Px v=some g→W'.heap[g]? = W.heap[g]?):Qu lo W' v xs:=by
 obtain⟨g,off,cap,rfl,h1,h2,h3,h4,h5⟩:=h;have hc:∀j,W'.cell? ⟨g,j,none⟩=W.cell? ⟨g,j,none⟩:=fun j=>World.cell?_of_block (a:=⟨g,j,none⟩) (hb g rfl)
 have hf:∀j,W'.frozen? ⟨g,j,none⟩=W.frozen? ⟨g,j,none⟩:=fun j=>World.frozen?_of_block (a:=⟨g,j,none⟩) (hb g rfl)
 exact⟨g,off,cap,rfl,h1,by omega,h3,fun j hj=>by rw[hc,hf];exact h4 j hj,fun j hj=>by rw[hc];exact h5 j hj⟩
theorem Qu.lt{lo:Nat}{W:World}{v:Value}{xs:List Int}(h:Qu lo W v xs){g:Nat}(hg:Px v=some g):lo≤g∧g<W.1.size:=by
 obtain⟨g',off,cap,rfl,h1,h2,r⟩:=h
 simp[Px]at hg
 subst hg;exact⟨h1,h2⟩
theorem Qu.slice{lo:Nat}{W:World}{v:Value}{xs:List Int}(h:Qu lo W v xs):∃g off cap,v=.slice (some ⟨g,off,none⟩) xs.length cap∧xs.length≤cap:=by
 obtain⟨g,off,cap,e,_,_,h3,_⟩:=h;exact⟨g,off,cap,e,h3⟩
theorem Qu.pop{lo:Nat}{W:World}{g off cap:Nat}{x:Int}{xs:List Int}(h:Qu lo W (.slice (some ⟨g,off,none⟩) (xs.length+1) cap) (x::xs)) :
  W.cell? ⟨g,off,none⟩=some (.int .i64 x)∧(cap≠1→Qu lo W (.slice (some ⟨g,off+1,none⟩) xs.length (cap-1)) xs)∧(cap=1→Qu lo W (.slice (some ⟨g,off,none⟩) xs.length (cap-1)) xs):=by
 obtain⟨g',off',cap',e,h1,h2,h3,h4,h5⟩:=h
 simp at e
 obtain⟨⟨rfl,rfl⟩,rfl⟩:=e;have h3':xs.length+1≤cap:=by simpa using h3
 refine⟨?_,fun _=>⟨g,off+1,cap-1,rfl,h1,h2,by omega,fun j hj=>?_,fun j hj=>?_⟩,fun e=>⟨g,off,cap-1,rfl,h1,h2,by omega,fun j hj=>by omega,fun j hj=>by omega⟩⟩
 ·have:=h5 0 (by simp)
  rwa [Kd,Nat.add_zero]at this
 ·rw[show off+1+j=off+(j+1)by omega];exact h4 (j+1) (by omega)
 ·have:=h5 (j+1) (by simp;omega);rw[Vl]at this;rw[show off+1+j=off+(j+1)by omega];exact this
theorem Qu.app{ops:Array Oper}{rest:List Oper}{o:Oper}{a:Act}{Q:Exit→Act→World→Prop}(W:World)(hg:o.guard=none)(s x:Operand)(hop:o.op=Op.call { callee:=Callee.builtin Builtin.append,args := #[s,x],argTypes := #[kI.st,kI.st] })
  (lo:Nat) (v:Value) (xs:List Int) (hs:a.eval s=v) (hq:Qu lo W v xs) (hlo:lo≤W.1.size)
  (ao:Option Addr) (ys:List Int) (m c:Nat) (hx:a.eval x=.slice ao m c) (hm:ys.length=m) (n:Nat) (hz:kI.In n W ao ys) (hl:xs.length+ys.length≤4194304)
  (hk:∀v' w',Qu lo w' v' (xs++ys)→Below lo W w'→(∀b,b<W.1.size→Px v≠some b→w'.heap[b]? = W.heap[b]?)→(Px v'=Px v∨Px v'=some W.1.size)→wpList prog ops Q rest (a.put o.dst v') w') :
  wpList prog ops Q (o::rest) a W:=by
 obtain⟨i0,z0,hin,hz0,hz1,hz2,hz3⟩:=Vq.info;have hz1':i0.size=1:=hz1;obtain⟨g,off,cap,rfl,h1,h2,h3,h4,h5⟩:=hq;subst hm;have hfl:(kI.flat ys).length=ys.length:=by rw[Yu,List.length_map]
 have hsrc:Src prog i0.size kI.st (.slice ao ys.length c) ys.length (kI.flat ys) W:=by
  cases ao with
  |none =>
   have hy:ys=[]:=by rcases hz with h|⟨b,off,e,_⟩;exact h;cases e
   subst hy;exact Src.ofNil (w:=W) Vq.und c
  |some ad=>exact Src.ofSlice (w:=W) Vq.und ad ys.length c (kI.flat ys) (by rw[hz1',hfl,Nat.mul_one]) hz.src (kI.flat_one ys)
 have hel:∀j,j<(xs++ys).length→xs.length≤j→(kI.flat ys)[j-xs.length]? = some (.int .i64 (el (xs++ys) j)):=fun j hj hge=>by
  have hj':j-xs.length<ys.length:=by simp at hj;omega
  rw[Yu,List.getElem?_map,List.getElem?_eq_getElem hj',el,List.getElem?_append_right hge,List.getElem?_eq_getElem hj'];rfl
 by_cases hroom:xs.length+ys.length≤cap
 ·have hr:=run_append_room_src (P:=prog) (w:=W) kI.st kI.st o.type kI.ty i0 Vq.und hin g off xs.length cap _ ys.length (kI.flat ys) hsrc hroom (fun j hj=>by rw[hz1',Nat.mul_one,Nat.add_assoc];exact(h4 (xs.length+j) (by omega)).1) (fun j hj=>by rw[hz1',Nat.mul_one,Nat.add_assoc];exact(h4 (xs.length+j) (by omega)).2);rw[hz1',Nat.mul_one]at hr;refine wpList_plain hg fun K' hK'=>?_
  unfold Oper.wp execOp
  simp only[hop,resolve,invoke,builtin,Sem.run_bind,Sem.run_pure,Result.andThen_ok,List.map_toArray,List.map_cons,List.map_nil,hs,hx,hr];have hsome:∀j,j<(kI.flat ys).length→(W.cell? ⟨g,off+xs.length+j,none⟩).isSome=true:=fun j hj=>by rw[Nat.add_assoc];exact(h4 (xs.length+j) (by omega)).1
  have hB:=Lib.below_setCells_w (g:=g) h1 (kI.flat ys) (off+xs.length) W;refine hK' _ _ ?_;have:=hk (.slice (some ⟨g,off,none⟩) (xs++ys).length cap) (W.setCells g (off+xs.length) (kI.flat ys)) ⟨g,off,cap,rfl,h1,Nat.lt_of_lt_of_le h2 hB.size,by simp;omega,fun j hj=>⟨?_,?_⟩,fun j hj=>?_⟩ hB (fun b hb hne=>World.heap_setCells_other W g _ _ hb (fun e=>hne (by rw[e];rfl))) (.inl rfl)
  ·rw[List.length_append]at this;exact this
  ·by_cases hin':xs.length≤j∧j<xs.length+(kI.flat ys).length
   ·have h:=World.cell?_setCells_in g (kI.flat ys) (off+xs.length) W hsome (j-xs.length) (by omega);rw[show off+xs.length+(j-xs.length)=off+j by omega]at h;rw[h];rfl
   ·rw[World.cell?_setCells_out g (kI.flat ys) (off+xs.length) W ⟨g,off+j,none⟩ (fun _ _=>by simp only;omega)];exact(h4 j hj).1
  ·rw[World.frozen?_setCells];exact(h4 j hj).2
  ·by_cases hge:xs.length≤j
   ·have hjl:j-xs.length<(kI.flat ys).length:=by simp at hj;omega
    have h:=World.cell?_setCells_in g (kI.flat ys) (off+xs.length) W hsome (j-xs.length) hjl;rw[show off+xs.length+(j-xs.length)=off+j by omega]at h;rw[h,←hel j hj hge,List.getElem?_eq_getElem hjl]
   ·rw[World.cell?_setCells_out g (kI.flat ys) (off+xs.length) W ⟨g,off+j,none⟩ (fun _ _=>by simp only;omega),h5 j (by omega),Uk (by omega)]
 ·have hfirst:(Builtin.firstCells i0.size xs.length (.slice (some ⟨g,off,none⟩) xs.length cap)).run prog W.drew=.ok (kI.flat xs).toArray W.drew:=by
   refine run_firstCells_some (P:=prog) W.drew i0.size xs.length ⟨g,off,none⟩ xs.length cap (kI.flat xs) (by rw[hz1',Nat.mul_one,Yu,List.length_map]) fun j u hu=>?_
   have hj:j<xs.length:=by have:=(List.getElem?_eq_some_iff.1 hu).1;rw[Yu,List.length_map]at this;exact this
   have h:=h5 j hj;rw[Yu,List.getElem?_map,List.getElem?_eq_getElem hj]at hu
   simp at hu
   subst hu;rw[Km hj]at h;have e:(⟨g,off,none⟩:Addr).add j=⟨g,off+j,none⟩:=by simp[Addr.add]
   rw[e];exact h
  have hb8:(xs.length+ys.length)*i0.bytes≤140737488355328:=by
   have:(xs.length+ys.length)*i0.bytes≤4194304*4096:=Nat.mul_le_mul hl hz3
   omega
  have hr:=run_append_grow_src (P:=prog) (w:=W) kI.st kI.st o.type kI.ty i0 z0 Vq.und hin hz0 (some ⟨g,off,none⟩) xs.length cap (kI.flat xs) hfirst _ ys.length (kI.flat ys) hsrc (by omega) (by omega) (growslice_fits (by omega) hb8);refine wpList_plain hg fun K' hK'=>?_
  unfold Oper.wp execOp
  simp only[hop,resolve,invoke,builtin,Sem.run_bind,Sem.run_pure,Result.andThen_ok,List.map_toArray,List.map_cons,List.map_nil,hs,hx,hr];refine hK' _ _ ?_;obtain⟨C,hC⟩:=nmd (grownCap W (xs.length+ys.length) cap kI.ty);rw[←hC];have hCge:xs.length+ys.length≤C:=by rw[hC];exact grownCap_ge W _ _ _
  obtain⟨A,hA⟩:∃A:Array Value,A=(kI.flat xs++kI.flat ys).toArray++Builtin.zeroCells z0.cells (C-(xs.length+ys.length)):=⟨_,rfl⟩;rw[←hA];have hAs:A.size=C:=by
   rw[hA];simp only[Array.size_append,List.size_toArray,List.length_append,Yu,List.length_map,size_zeroCells,hz2]
   show _+_*1=_
   omega
  have hAj:∀j,j<xs.length+ys.length→A[j]? = some (.int .i64 (el (xs++ys) j)):=fun j hj=>by
   have hl2:j<((xs++ys).map (Value.int .i64)).length:=by simp;omega
   rw[hA,Array.getElem?_append_left (by simp[Yu];omega),List.getElem?_toArray,Yu,Yu,←List.map_append,List.getElem?_map,List.getElem?_eq_getElem (show j<(xs++ys).length by simp;omega),Km (show j<(xs++ys).length by simp;omega)];rfl
  have hcell:∀j,(W.drew.alloc (.cells A kI.ty)).cell? ⟨W.1.size,j,none⟩=A[j]? := fun j=>World.cell?_alloc_new (w:=W.drew) A kI.ty j
  have hB:Below W.1.size W (W.drew.alloc (.cells A kI.ty)):=((Below.refl _ _).drew).alloc (Nat.le_refl _) _;have:=hk (.slice (some ⟨W.1.size,0,none⟩) (xs++ys).length C) (W.drew.alloc (.cells A kI.ty)) ⟨W.1.size,0,C,rfl,hlo,by show W.1.size<(W.heap.push _).size;rw[Array.size_push];omega,by rw[List.length_append];exact hCge,fun j hj=>⟨?_,?_⟩,fun j hj=>?_⟩ (hB.mono hlo) (fun b hb _=>hB.block b hb) (.inr rfl)
  ·rw[List.length_append]at this;exact this
  ·rw[Nat.zero_add,hcell,Array.getElem?_eq_getElem (by omega)];rfl
  ·rw[Nat.zero_add];exact World.frozen?_alloc_new (w:=W.drew) A kI.ty j
  ·rw[Nat.zero_add,hcell];exact hAj j (by simpa using hj)
theorem Tryz.infoB:(prog.info? 4).map (fun i=>(i.zero,i.size,i.bytes))=some (some (.bool false),1,1):=by kernel_rfl
theorem map_setB(sn:List Bool)(k:Nat):(sn.set k true).map Value.bool=(sn.map Value.bool).set k (.bool true):=by rw[List.map_set]
theorem rep_map(n:Nat):(List.replicate n false).map Value.bool=List.replicate n (Value.bool false):=by simp
theorem Qu.new(W:World)(o:Obj):Qu W.1.size (W.alloc o) (.slice (some ⟨W.1.size,0,none⟩) 0 0) [] :=
 ⟨W.1.size,0,0,rfl,Nat.le_refl _,by simp,Nat.le_refl _,fun j hj=>by omega,fun j hj=>by simp at hj⟩
theorem Hs{W:World}{g n:Nat}{e:TypeId}{us:List Value}(h:W.ownsRow g e 1 (.slice (some ⟨g,0,none⟩) n n) n us):Bx W g us:=by
 refine⟨(Jt h).2,fun i v hv=>⟨?_,h.frozenAt i⟩⟩;have hl:i<us.length:=(List.getElem?_eq_some_iff.1 hv).1;rw[h.cellAt i (by rw[←h.1];exact hl)];exact hv
theorem l11Reach_is(ao:Option Addr)(cap:Nat)(ts:List LNode)(f t:Nat)(w:World)(hF:FitN ts)(hE:EdgesIn (ts.map Zz))(hf:f<ts.length)(hz:DIn Ja w.1.size w ao ts) :
  Calls prog 175 #[.slice ao ts.length cap,.int .i64 (f:Int),.int .i64 (t:Int)] w fun e w'=>(∃r:Bool,e=.returned (.bool r)∧(r=true↔Rch (ts.map Zz) f t))∧Below w.1.size w w':=by
 obtain⟨i0,hi,hz0,hz1,hz2⟩:=info_parts Tryz.infoB;have h10:ts.length≤10:=by have:=hE.many;simpa using this
 have HE:=Zd hE;have HZ:=Zd hz;have HFi:=Zd hF;have hnode:Zi (∀k,k<ts.length→∃b off nxo nxc,ao=some ⟨b,off,none⟩∧b<w.1.size∧w.cell? ⟨b,off+k*6+5,none⟩=some (.slice nxo (nxP (ts.map Zz) k).length nxc)∧kI.In w.1.size w nxo (nxP (ts.map Zz) k)):=fun k hk=>by
  obtain⟨b,off,e,hb,hc⟩:=Qw hz.1 hk;have d6:=(hc k hk).2.2.2.2.2;have hin:=hz.2 k hk;have hev:nxP (ts.map Zz) k=(el ts k).2.2.2.2.2.2.2:=by rw[nxP,Jz hk];rfl
  rw[hev];exact⟨b,off,_,_,e,hb,d6,hin⟩
 clear hz hE hF;obtain⟨b,off,nxo,nxc,rfl,hb,c6,hI⟩:=hnode.o f hf;have hff:(f:Int)<(ts.length:Int):=by omega
 obtain⟨L,hL⟩:=nmd (nxP (ts.map Zz) f);rw[←hL]at c6 hI;have HI:=Zd hI;have HL:=Zd hL;have hll:L.length≤10:=by rw[hL];exact HE.o.few f (by simpa using hf)
 clear hI hL;go_enter func175,ntmps175;go_wp2_with (first
  |(at_make;refine wpList_make_full _ rfl _ _ 252 rfl w.1.size 4 i0 (.bool false) 1 underlying252 hi hz0 hz1 .i64 .i64 _ _ ts.length rfl rfl rfl rfl (by rw[hz2];omega) (by unfold maxLen;omega) (Nat.le_refl _) ?_;intro w1 hown hgrow;have hB1:Below w.1.size w w1:=(Below.refl _ _).grown hgrow (Nat.le_refl _) (fun k e=>by cases e);have HO:=Zd (Hs hown);have c1:=(hB1.cell (p:=⟨b,off+f*6+5,none⟩) hb).trans c6;have hs1:=(Jt hown).2;have hb1:b<w1.1.size:=(by omega);have HQ0:=Zd (Qu.new w1 (.cells #[] kI.ty));have HZ0:Zi (kI.In w1.1.size (w1.alloc (.cells #[] kI.ty)) nxo L):=((HI.o.later hB1).below (Zk _ _));clear hown hgrow)
  |(at_builtin;refine Qu.app (w1.alloc (.cells #[] kI.ty)) rfl (.tmp 13) (.tmp 18) rfl w1.1.size (.slice (some ⟨w1.1.size,0,none⟩) 0 0) [] rfl HQ0.o (by simp) nxo L L.length nxc rfl rfl _ HZ0.o (by simp;omega) ?_;intro v2 w2 hQ2 hB2 hK2 hv2;rw[List.nil_append]at hQ2;have hBa:Below w1.1.size w1 w2:=((Zk w1 _).trans hB2);have hB2w:Below w.1.size w w2:=hB1.trans (hBa.mono hB1.size);have Q2:=Zd hQ2;have O2:=Zd (HO.o.later hBa);have hsz2:w1.1.size≤w2.1.size:=hBa.size;clear hQ2 hB2 hK2 hv2 hBa c1))
 have HS1:=Zd hs1
 go_loopg [8] (Ng L (List.replicate ts.length false)) (fun m u wr=>∃(v:Value)(todo:List Int)(sn:List Bool),v=u∧m=Ng todo sn∧m≤120∧Zi (Qu w1.1.size wr v todo)∧Zi (Bx wr w.1.size (sn.map Value.bool))∧Zi (Bfs (ts.map Zz) f (t:Int) todo sn)∧Below w.1.size w wr∧w1.1.size≤wr.1.size)
 case atStart =>
  refine⟨v2,L,List.replicate ts.length false,rfl,rfl,?_,Q2,?_,?_,hB2w,?_⟩
  ·unfold Ng;simp;omega
  ·have h:Bx w2 w.1.size (madeCells #[Value.bool false] (ts.length*1)).toList:=O2.o;rw[toList_madeCells_one,Nat.mul_one]at h;rw[rep_map];exact h
  ·have h:=Bfs.start (t:=(t:Int)) HE.o (f:=f) (by simpa using hf);rw[List.length_map,←HL.o]at h;exact h
  ·exact hsz2
 case round =>
  obtain⟨v,todo,sn,rfl,hm,hm120,hQ,hO,hF,hB,hsz⟩:=hrel;have hsl:sn.length=ts.length:=by have:=hF.o.len;simpa using this
  obtain⟨g,og,cg,rfl,hcg⟩:=hQ.o.slice
  cases todo with
  |nil =>
   have HD:=Zd (Bfs.done HE.o (by simpa using hf) hF.o);clear hcg;go_wp2;go_ret;exact⟨⟨false,rfl,by simp;exact HD.o⟩,hB⟩
  |cons x r =>
   obtain⟨k,hk,rfl,hrk⟩:=hF.o.way x (by simp);have hkn:k<ts.length:=by simpa using hk
   obtain⟨px,pq,pr⟩:=hQ.o.pop;have hki:(k:Int)<(ts.length:Int):=by omega
   have hcr:r.length+1≤cg:=by simpa using hcg
   have hlen:r.length≤120:=by unfold Ng at hm;simp at hm;omega
   clear hk hrk hcg
   by_cases hkt:k=t
   ·have HH:Zi (Rch (ts.map Zz) f t):=by subst hkt;exact hF.o.hit rfl
    have hkt':((k:Int)==(t:Int))=true:=by simp[hkt]
    clear hkt
    by_cases hc1:cg=1
    ·go_wp2;go_ret;exact⟨⟨true,rfl,by simp;exact HH.o⟩,hB⟩
    ·go_wp2;go_ret;exact⟨⟨true,rfl,by simp;exact HH.o⟩,hB⟩
   ·have hkt':((k:Int)==(t:Int))=false:=by simp;omega
    have cs:=hO.o.c k (show(sn.map Value.bool)[k]? = some (.bool (el sn k))from by rw[List.getElem?_map,List.getElem?_eq_getElem (by omega),Km (by omega)];rfl);have csf:=hO.o.f k (show(sn.map Value.bool)[k]? = some (.bool (el sn k))from by rw[List.getElem?_map,List.getElem?_eq_getElem (by omega),Km (by omega)];rfl)
    cases hsk:el sn k
    ·rw[hsk]at cs;have HCN:=Zd (count_mark (by omega) hsk);obtain⟨b2,off2,mxo,mxc,eb,hb2,c62,hI2⟩:=hnode.o k hkn;obtain⟨rfl,rfl⟩:b=b2∧off=off2:=by simp at eb;exact eb
     obtain⟨L2,hL2⟩:=nmd (nxP (ts.map Zz) k);rw[←hL2]at c62 hI2;have hl2:L2.length≤10:=by rw[hL2];exact HE.o.few k (by simpa using hkn)
     have HMK:Zi (Bfs (ts.map Zz) f (t:Int) (r++L2) (sn.set k true)):=by rw[hL2];exact hF.o.mark HE.o (by simpa using hkn) (by omega)
     have HBs:=Zd (hB.setCell (p:=⟨w.1.size,k,none⟩) (Nat.le_refl _) (.bool true));have HOs:=Zd (hO.o.set k (.bool true));have HI2:Zi (kI.In (wr.setCell ⟨w.1.size,k,none⟩ (.bool true)).heap.size (wr.setCell ⟨w.1.size,k,none⟩ (.bool true)) mxo L2):=hI2.later HBs.o;have d6:=(hB.cell (p:=⟨b,off+k*6+5,none⟩) hb).trans c62;have hbne:b≠w.1.size:=by omega
     clear hsk hF c62 hI2 eb hL2
     by_cases hc1:cg=1
     ·have hp0:Qu w1.1.size wr (.slice (some ⟨g,og,none⟩) r.length 0) r:=by have h:=pr hc1;rw[hc1]at h;exact h
      have HQ:=Zd (hp0.keep (W':=wr.setCell ⟨w.1.size,k,none⟩ (.bool true)) (by simp[World.setCell]) (fun g' hg'=>Below.heap_setCell _ _ _ _ (by have:=(hp0.lt hg').1;have:=HS1.o;simp only;omega)));go_wp2_with (at_builtin;refine Qu.app (wr.setCell ⟨w.1.size,k,none⟩ (.bool true)) rfl (.tmp 39) (.tmp 44) rfl w1.1.size (.slice (some ⟨g,og,none⟩) r.length 0) r rfl HQ.o (by simp[World.setCell];omega) mxo L2 L2.length mxc rfl rfl _ HI2.o (by omega) ?_;intro v3 w3 hQ3 hB3 hK3 hv3;have hB3w:Below w.1.size w w3:=HBs.o.trans (hB3.mono (by omega));have Q3:=Zd hQ3;have O3:=Zd (HOs.o.below hB3 (by omega));have hsz3:w1.1.size≤w3.1.size:=(by have:=hB3.size;simp[World.setCell]at this;omega);clear hQ3 hB3 hK3 hv3);go_roundg (Ng (r++L2) (sn.set k true))
      case measure=>have:=hm;have:=HCN.o;unfold Ng at *;simp at *;omega
      case rel=>exact⟨_,r++L2,sn.set k true,rfl,rfl,by have:=hm;have:=HCN.o;unfold Ng at *;simp at *;omega,Q3,by rw[Zi,map_setB];exact O3,HMK,hB3w,hsz3⟩
     ·have HQ:=Zd ((pq hc1).keep (W':=wr.setCell ⟨w.1.size,k,none⟩ (.bool true)) (by simp[World.setCell]) (fun g' hg'=>Below.heap_setCell _ _ _ _ (by have:=((pq hc1).lt hg').1;have:=HS1.o;simp only;omega)));go_wp2_with (at_builtin;refine Qu.app (wr.setCell ⟨w.1.size,k,none⟩ (.bool true)) rfl (.tmp 39) (.tmp 44) rfl w1.1.size (.slice (some ⟨g,og+1,none⟩) r.length (cg-1)) r rfl HQ.o (by simp[World.setCell];omega) mxo L2 L2.length mxc rfl rfl _ HI2.o (by omega) ?_;intro v3 w3 hQ3 hB3 hK3 hv3;have hB3w:Below w.1.size w w3:=HBs.o.trans (hB3.mono (by omega));have Q3:=Zd hQ3;have O3:=Zd (HOs.o.below hB3 (by omega));have hsz3:w1.1.size≤w3.1.size:=(by have:=hB3.size;simp[World.setCell]at this;omega);clear hQ3 hB3 hK3 hv3);go_roundg (Ng (r++L2) (sn.set k true))
      case measure=>have:=hm;have:=HCN.o;unfold Ng at *;simp at *;omega
      case rel=>exact⟨_,r++L2,sn.set k true,rfl,rfl,by have:=hm;have:=HCN.o;unfold Ng at *;simp at *;omega,Q3,by rw[Zi,map_setB];exact O3,HMK,hB3w,hsz3⟩
    ·rw[hsk]at cs;have HSK:=Zd (hF.o.skip (by simpa using hsk));clear hsk hF
     by_cases hc1:cg=1
     ·have hp0:Qu w1.1.size wr (.slice (some ⟨g,og,none⟩) r.length 0) r:=by have h:=pr hc1;rw[hc1]at h;exact h
      go_wp2;go_roundg (Ng r sn)
      case measure=>have:=hm;unfold Ng at this ⊢;simp at this;omega
      case rel=>exact⟨_,r,sn,rfl,rfl,by have:=hm;unfold Ng at this ⊢;simp at this;omega,Zd hp0,hO,Zd HSK.o,hB,hsz⟩
     ·go_wp2;go_roundg (Ng r sn)
      case measure=>have:=hm;unfold Ng at this ⊢;simp at this;omega
      case rel=>exact⟨_,r,sn,rfl,rfl,by have:=hm;unfold Ng at this ⊢;simp at this;omega,Zd (pq hc1),hO,Zd HSK.o,hB,hsz⟩
end Go.Proofs.YtdacedbfnlkghaaGreatDoor