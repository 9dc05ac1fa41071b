/- Meanings, plainly: sums, orders, what a node lets through. Meanings, plainly: what a value means, and how wide it may be. What is kept by moves: of each item what was emitted, what lives and what was lost weigh together what was offered. Plain. Meanings, plainly: node by node along an order. No conditions but those written. -/
import Derived.Test.YtdacedbfnlkghaaGreatDoorUYtSpb
namespace Go.Proofs.YtdacedbfnlkghaaGreatDoor
section
open Go.RowKit
def Zt{α:Type}(f:α→Int):List α→Int
 | []=>0
 |x::r=>f x+Zt f r
section
variable {α β:Type}
theorem Wb(f:α→Int):∀l r:List α,Zt f (l++r)=Zt f l+Zt f r
 | [],r=>by simp[Zt]
 |x::l,r=>by simp only[List.cons_append,Zt,Wb f l r];omega
theorem Pn(f:α→Int)(x:α):Zt f [x]=f x:=by simp[Zt]
theorem Kj{f g:α→Int}:∀{l:List α},(∀x∈l,f x=g x)→Zt f l=Zt g l
 | [],_=>rfl
 |x::r,h=>by simp only[Zt];rw[h x (by simp),Kj (l:=r) fun y hy=>h y (by simp[hy])]
theorem sumI_le{f g:α→Int}:∀{l:List α},(∀x∈l,f x≤g x)→Zt f l≤Zt g l
 | [],_=>Int.le_refl _
 |x::r,h=>by have h1:=h x (by simp);have h2:=sumI_le (l:=r) fun y hy=>h y (by simp[hy]);simp only[Zt];omega
theorem sumI_neg(f:α→Int):∀l:List α,Zt (fun x => - f x) l = - Zt f l
 | []=>rfl
 |x::r=>by simp only[Zt,sumI_neg f r];omega
theorem sumI_add(f g:α→Int):∀l:List α,Zt (fun x=>f x+g x) l=Zt f l+Zt g l
 | []=>rfl
 |x::r=>by simp only[Zt,sumI_add f g r];omega
theorem Wu:∀l:List α,Zt (fun _=>0) l=0
 | []=>rfl
 |x::r=>by simp only[Zt,Wu r];omega
theorem sumI_map(f:β→Int)(g:α→β):∀l:List α,Zt f (l.map g)=Zt (fun x=>f (g x)) l
 | []=>rfl
 |x::r=>by simp only[List.map_cons,Zt,sumI_map f g r]
theorem Lm(f:β→Int)(g:α→List β):∀l:List α,Zt f (l.flatMap g)=Zt (fun x=>Zt f (g x)) l
 | []=>rfl
 |x::r=>by simp only[List.flatMap_cons,Zt,Wb,Lm f g r]
theorem sumI_swap(f:α→β→Int):∀(l:List α)(r:List β),Zt (fun x=>Zt (f x) r) l=Zt (fun y=>Zt (fun x=>f x y) l) r
 | [],r=>by simp only[Zt];rw[Wu]
 |x::l,r=>by simp only[Zt];rw[sumI_swap f l r,sumI_add]
theorem Xa{f:α→Int}{l:List α}(h:∀x∈l,0≤f x):0≤Zt f l:=by
 have:=sumI_le (f:=fun _=>0) (g:=f) h;rw[Wu]at this;exact this
theorem Wk{f:α→Int}:∀{l:List α},(∀x∈l,1≤f x)→(l.length:Int)≤Zt f l
 | [],_=>by simp[Zt]
 |x::r,h=>by have h1:=h x (by simp);have h2:=Wk (l:=r) fun y hy=>h y (by simp[hy]);simp only[Zt,List.length_cons];omega
theorem Jr{f:α→Int}{c:Int}:∀{l:List α},(∀x∈l,f x≤c)→Zt f l≤c*(l.length:Int)
 | [],_=>by simp[Zt]
 |x::r,h=>by
  have h1:=h x (by simp);have h2:=Jr (c:=c) (l:=r) fun y hy=>h y (by simp[hy])
  simp only[Zt,List.length_cons];push_cast;rw[Int.mul_add,Int.mul_one];omega
theorem Hn{f:α→Int}:∀{l:List α}{x:α},x∈l→(∀y∈l,0≤f y)→f x≤Zt f l
 |y::r,x,h,hn=>by
  have h2:0≤Zt f r:=Xa fun z hz=>hn z (by simp[hz])
  have h0:=hn y (by simp);simp only[Zt]
  rcases List.mem_cons.1 h with rfl|h
  ·omega
  ·have:=Hn h fun z hz=>hn z (by simp[hz]);omega
theorem Tk [BEq α] [LawfulBEq α] (a:α):∀l:List α,(l.count a:Int)=Zt (fun x=>if x==a then 1 else 0) l
 | []=>rfl
 |x::r=>by
  rw[List.count_cons,Zt,←Tk a r]
  by_cases h:(x==a)=true
  ·simp[h];omega
  ·simp[h]
theorem perm_of_sums [BEq α] [LawfulBEq α] {l r:List α} (h:∀f:α→Int,Zt f l=Zt f r):l.Perm r:=by
 rw[List.perm_iff_count];intro a;have:=h fun x=>if x==a then 1 else 0
 rw[←Tk,←Tk]at this
 omega
end
def Tb(gs:List PNode)(k:Nat)(v:Int):List Int :=
 if(Jo (el gs k).2.1 (el gs k).2.2.1 (el gs k).2.2.2.1 v).2=true then[v]else(Jo (el gs k).2.1 (el gs k).2.2.1 (el gs k).2.2.2.1 v).1
def Wy(gs:List PNode):Prop:=∀k,k<gs.length→Zg (el gs k).2.1 (el gs k).2.2.1 (el gs k).2.2.2.1=true
theorem Hp{gs:List PNode}{k:Nat}(h:Zg (el gs k).2.1 (el gs k).2.2.1 (el gs k).2.2.2.1=true)(v:Int):((Tb gs k v).length:Int)≤Uf (el gs k).2.1 (el gs k).2.2.1 (el gs k).2.2.2.1:=by
 unfold Tb Uf
 rw[if_pos h]
 generalize(el gs k).2.1=kd at *
 generalize(el gs k).2.2.1=a at *
 generalize(el gs k).2.2.2.1=b at *
 rcases Xe h with rfl|rfl|rfl|rfl
 ·simp[Jo]
 ·rw[Dw];simp;split <;> simp
 ·have:=good3 h;rw[appSt3];simp[Lw];omega
 ·rw[Dv];split <;> simp
theorem fact_pos{k a b:Int}(h:Zg k a b=true):1≤Uf k a b:=by
 unfold Uf
 rw[if_pos h]
 split
 ·next e=>subst e;exact(good3 h).1
 ·omega
theorem outM_val{gs:List PNode}{k:Nat}(h:Zg (el gs k).2.1 (el gs k).2.2.1 (el gs k).2.2.2.1=true){v:Int}(hv:Ju v=true):∀x∈Tb gs k v,Ju x=true:=by
 intro x hx
 unfold Tb at hx
 split at hx
 ·simp at hx;subst hx;exact hv
 ·exact Dx h hv x hx
def Dh(gs:List PNode)(φ:Nat→Int→Int)(ψ:Int×Int→Int)(k:Nat)(x:Int):Int :=
 if(nxP gs k).length=0 then ψ ((k:Int),x)else Zt (fun y=>φ y.toNat x) (nxP gs k)
def Falls(gs:List PNode)(φ:Nat→Int→Int)(ψ:Int×Int→Int):Prop:=∀k v,k<gs.length→Zt (Dh gs φ ψ k) (Tb gs k v)≤φ k v
structure Ordd(gs:List PNode)(R:List Int):Prop where
 perm:R.Perm (Qh gs.length)
 fwd:R.Pairwise fun a b=>a∉nxP gs b.toNat
 self:∀a∈R,a∉nxP gs a.toNat
theorem Dj(gs:List PNode):∀(n:Nat)(o l:List Int),(o.Pairwise fun a b=>a∉nxP gs b.toNat)→(∀a∈o,a∉nxP gs a.toNat)→(∀a∈o,∀b∈l,a∉nxP gs b.toNat)→
  ((Qb gs n o l).1.Pairwise fun a b=>a∉nxP gs b.toNat)∧∀a∈(Qb gs n o l).1,a∉nxP gs a.toNat
 |0,o,l,h1,h2,_=>⟨h1,h2⟩
 |n+1,o,l,h1,h2,h3=>by
  rw[Qb]
  cases hp:l.findIdx? (fun b => !Hf gs l b)with
  |none=>exact⟨h1,h2⟩
  |some k =>
   rw[List.findIdx?_eq_some_iff_getElem]at hp;obtain⟨hk,hb,_⟩:=hp;have hel:el l k=l[k]:=Km hk;have hno:∀b∈l,el l k∉nxP gs b.toNat:=fun b hb' hm=>by
    rw[←hel]at hb;simp only[Hf,Bool.not_eq_true',List.any_eq_false]at hb;have:=hb b hb';simp only[Gy,Wr,decide_eq_true_eq]at this;exact this hm
   have hkm:el l k∈l:=Zl hk;refine Dj gs n _ _ ?_ ?_ ?_
   ·rw[List.pairwise_append];exact⟨h1,by simp,fun _ ha b hb'=>by simp at hb';subst hb';exact h3 _ ha _ hkm⟩
   ·intro a ha
    rcases List.mem_append.1 ha with ha|ha
    ·exact h2 a ha
    ·simp at ha;subst ha;exact hno _ hkm
   ·intro a ha b hb';have hb'':=cut_mem hb'
    rcases List.mem_append.1 ha with ha|ha
    ·exact h3 a ha b hb''
    ·simp at ha;subst ha;exact hno b hb''
theorem Ka{gs:List PNode}(h:¬(Zv gs).length<gs.length):Ordd gs (Zv gs):=by
 have hp:=Gl gs gs.length [] (Qh gs.length);have hf:=Uv gs gs.length [] (Qh gs.length) (by rw[Qd];exact Nat.le_refl _);have ho:=Dj gs gs.length [] (Qh gs.length) (by simp) (by simp) (by simp);have h2:(Qb gs gs.length [] (Qh gs.length)).2=[]:=by
  have h1:=hf.1;rw[Qd]at h1
  unfold Zv at h
  exact List.length_eq_zero_iff.1 (by simp at h1;omega)
 rw[h2,List.append_nil,List.nil_append]at hp;exact⟨hp,ho.1,ho.2⟩
section
variable {gs:List PNode} {R:List Int}
theorem Ordd.nodup(h:Ordd gs R):R.Nodup:=h.perm.nodup_iff.2 (Rd (Mx _))
theorem Ordd.rng(h:Ordd gs R):∀a∈R,∃j:Nat,j<gs.length∧a=(j:Int):=fun _ ha=>Xd (h.perm.subset ha)
theorem Ordd.has(h:Ordd gs R){k:Nat}(hk:k<gs.length):(k:Int)∈R:=h.perm.symm.subset (Rk hk)
theorem Ordd.len(h:Ordd gs R):R.length=gs.length:=by rw[h.perm.length_eq,Qd]
theorem Ordd.next(h:Ordd gs R)(hE:EdgesIn gs){t k:Nat}(ht:t<R.length)(ek:el R t=(k:Int)):∀y∈nxP gs k,y∈R.drop (t+1):=by
 intro y hy;have hkm:(k:Int)∈R:=by rw[←ek];exact Zl ht
 obtain⟨k',hk',e⟩:=h.rng _ hkm;obtain rfl:k=k':=by omega
 obtain⟨j,hj,rfl⟩:=hE.rng k hk' y hy;have hm:=h.has hj;have hs:R=R.take t++el R t::R.drop (t+1):=by rw[Km ht,List.getElem_cons_drop,List.take_append_drop]
 have hf:=h.fwd;rw[hs,ek]at hm hf
 rcases List.mem_append.1 hm with hm|hm
 ·exfalso
  rw[List.pairwise_append]at hf;exact hf.2.2 _ hm (k:Int) (by simp) (by simpa using hy)
 ·rcases List.mem_cons.1 hm with hm|hm
  ·exfalso
   have:=h.self _ hkm;simp only[Int.toNat_natCast]at this;rw[hm]at hy;exact this hy
  ·exact hm
end
end
section
open Go.RowKit
def Do(gs:List PNode):Nat→Nat→Int→List (Int×Int)
 |0,_,_=>[]
 |n+1,k,v=>(Tb gs k v).flatMap fun x=>if(nxP gs k).length=0 then[((k:Int),x)]else(nxP gs k).flatMap fun y=>Do gs n y.toNat x
def Xl(gs:List PNode)(k:Nat)(v:Int):List (Int×Int):=Do gs gs.length k v
def rk(R:List Int)(k:Nat):Nat:=R.length-R.idxOf (k:Int)
section
variable {gs:List PNode} {R:List Int}
theorem Ordd.at(h:Ordd gs R){k:Nat}(hk:k<gs.length):R.idxOf (k:Int)<R.length∧el R (R.idxOf (k:Int))=(k:Int):=by
 have hl:R.idxOf (k:Int)<R.length:=List.idxOf_lt_length_of_mem (h.has hk);exact⟨hl,by rw[Km hl];exact List.getElem_idxOf hl⟩
theorem idx_drop{l:List Int}(hn:l.Nodup){t:Nat}{y:Int}(hy:y∈l.drop (t+1)):t<l.idxOf y:=by
 obtain⟨j,hj,e⟩:=List.getElem_of_mem hy;rw[List.length_drop]at hj;rw[List.getElem_drop]at e;have hlt:t+1+j<l.length:=by omega
 have hm:y∈l:=by rw[←e];exact List.getElem_mem hlt
 have hi:=List.idxOf_lt_length_of_mem hm;have e2:l[l.idxOf y]'hi=l[t+1+j]'hlt:=by rw[List.getElem_idxOf hi,e]
 rcases Nat.lt_or_ge t (l.idxOf y)with h|h
 ·exact h
 ·exact absurd e2 (List.pairwise_iff_getElem.1 hn _ _ hi hlt (by omega))
theorem Ordd.rk_next(h:Ordd gs R)(hE:EdgesIn gs){k:Nat}(hk:k<gs.length):∀y∈nxP gs k,∃j:Nat,j<gs.length∧y=(j:Int)∧rk R j<rk R k:=by
 intro y hy;obtain⟨j,hj,rfl⟩:=hE.rng k hk y hy;refine⟨j,hj,rfl,?_⟩;have ha:=h.at hk;have hn:=idx_drop h.nodup (h.next hE ha.1 ha.2 _ hy);have hb:=h.at hj
 unfold rk
 omega
theorem Ordd.rk_le(h:Ordd gs R)(k:Nat):rk R k≤gs.length:=by have:=h.len;unfold rk;omega
theorem Ordd.rk_pos(h:Ordd gs R){k:Nat}(hk:k<gs.length):1≤rk R k:=by have:=(h.at hk).1;unfold rk;omega
theorem Kp{α β:Type}{f g:α→List β}:∀{l:List α},(∀x∈l,f x=g x)→l.flatMap f=l.flatMap g
 | [],_=>rfl
 |x::r,h=>by rw[List.flatMap_cons,List.flatMap_cons,h x (by simp),Kp (l:=r) fun y hy=>h y (by simp[hy])]
theorem Fp(h:Ordd gs R)(hE:EdgesIn gs):∀(n m k:Nat)(v:Int),k<gs.length→rk R k≤n→rk R k≤m→Do gs n k v=Do gs m k v
 |0,_,k,_,hk,hn,_=>by have:=h.rk_pos hk;omega
 |_+1,0,k,_,hk,_,hm=>by have:=h.rk_pos hk;omega
 |n+1,m+1,k,v,hk,hn,hm=>by
  rw[Do,Do];refine Kp fun x _=>?_
  split
  ·rfl
  ·refine Kp fun y hy=>?_
   obtain⟨j,hj,rfl,hr⟩:=h.rk_next hE hk y hy;rw[Int.toNat_natCast];exact Fp h hE n m j x hj (by omega) (by omega)
theorem meanG_eq(h:Ordd gs R)(hE:EdgesIn gs){k:Nat}(hk:k<gs.length)(v:Int) :
  Xl gs k v=(Tb gs k v).flatMap fun x=>if(nxP gs k).length=0 then[((k:Int),x)]else(nxP gs k).flatMap fun y=>Xl gs y.toNat x:=by
 obtain⟨n,hn⟩:∃n,gs.length=n+1:=⟨gs.length-1,by omega⟩;have h1:Xl gs k v=Do gs (n+1) k v:=by rw[Xl,hn]
 rw[h1,Do];refine Kp fun x _=>?_
 split
 ·rfl
 ·refine Kp fun y hy=>?_
  obtain⟨j,hj,rfl,hr⟩:=h.rk_next hE hk y hy;have:=h.rk_le k;rw[Int.toNat_natCast,Xl];exact Fp h hE n gs.length j x hj (by omega) (h.rk_le j)
theorem Mw(h:Ordd gs R)(hE:EdgesIn gs)(ψ:Int×Int→Int){k:Nat}(hk:k<gs.length)(v:Int) :
  Zt ψ (Xl gs k v)=Zt (Dh gs (fun j x=>Zt ψ (Xl gs j x)) ψ k) (Tb gs k v):=by
 rw[meanG_eq h hE hk,Lm];refine Kj fun x _=>?_
 unfold Dh
 split
 ·exact Pn _ _
 ·rw[Lm]
def wdP(gs:List PNode)(R:List Int)(k:Nat):Int:=el (Vh gs R.reverse R.length) k
theorem Pm(wd:List Int):∀nx:List Int,Dc wd nx=Zt (fun y=>el wd y.toNat) nx
 | []=>rfl
 |x::r=>by
  have:=Pm wd r;simp only[Dc,List.map_cons,List.sum_cons,Zt]at this ⊢;rw[this]
theorem Ordd.nx_take(h:Ordd gs R)(hE:EdgesIn gs){t k:Nat}(ht:t<R.reverse.length)(ek:el R.reverse t=(k:Int)):∀y∈nxP gs k,y∈R.reverse.take t:=by
 intro y hy;have htl:t<R.length:=by rw[List.length_reverse]at ht;exact ht
 rw[Nx htl]at ek;have:=h.next hE (t:=R.length-1-t) (by omega) ek y hy;rw[List.take_reverse,List.mem_reverse,show R.length-t=R.length-1-t+1 by omega];exact this
theorem wNew_congr{wd wd':List Int}{k:Nat}(h:∀y∈nxP gs k,el wd y.toNat=el wd' y.toNat):Dg gs wd k=Dg gs wd' k:=by
 unfold Dg
 rw[Pm,Pm,Kj h]
theorem wd_done(h:Ordd gs R)(hE:EdgesIn gs):∀t,t≤R.reverse.length→∀k:Nat,k<gs.length→(k:Int)∈R.reverse.take t→el (Vh gs R.reverse t) k=Dg gs (Vh gs R.reverse t) k
 |0,_,k,_,hm=>by simp at hm
 |t+1,ht,k,hk,hm=>by
  have hlt:t<R.reverse.length:=by omega
  obtain⟨j,hj,ej⟩:∃j:Nat,j<gs.length∧el R.reverse t=(j:Int):=h.rng _ (List.mem_reverse.1 (Zl hlt));have hnd:R.reverse.Nodup:=by
   have:=h.nodup;rw[List.Nodup,List.pairwise_reverse];exact List.Pairwise.imp Ne.symm this
  have hout:=Nz hlt hnd;rw[ej]at hout;have hset:∀x:Nat,el (Vh gs R.reverse (t+1)) x=if x=j then Dg gs (Vh gs R.reverse t) j else el (Vh gs R.reverse t) x:=fun x=>by
   rw[Vh,ej,Int.toNat_natCast,Bn (by rw[Kk];exact hj)]
  have hsame:∀i:Nat,i<gs.length→(∀y∈nxP gs i,y∈R.reverse.take t)→Dg gs (Vh gs R.reverse (t+1)) i=Dg gs (Vh gs R.reverse t) i:=fun i hi hn=>by
   refine wNew_congr fun y hy=>?_
   obtain⟨b,hb,rfl⟩:=hE.rng i hi y hy;rw[Int.toNat_natCast,hset,if_neg];intro e;subst e;exact hout (hn _ hy)
  have hcl:=h.nx_take hE hlt ej;rw[Zy hlt,ej]at hm
  by_cases e:k=j
  ·subst e;rw[hset,if_pos rfl,hsame k hk hcl]
  ·have hm2:(k:Int)∈R.reverse.take t:=by
    rcases List.mem_append.1 hm with hm|hm
    ·exact hm
    ·rw[List.mem_singleton]at hm;omega
   have ih:=wd_done h hE t (by omega) k hk hm2;rw[hset,if_neg e,ih,hsame k hk];intro y hy;obtain⟨i,hi,ei⟩:=Gx hm2;rw[List.length_take]at hi;have hit:i<t:=by omega
   have eit:el R.reverse i=(k:Int):=by rw[←ei];exact(el_take hit).symm
   have:=h.nx_take hE (t:=i) (by omega) eit y hy;have hsub:R.reverse.take i=(R.reverse.take t).take i:=by rw[List.take_take,Nat.min_eq_left (by omega)]
   rw[hsub]at this;exact List.mem_of_mem_take this
theorem wdP_eq(h:Ordd gs R)(hE:EdgesIn gs){k:Nat}(hk:k<gs.length):wdP gs R k=Uf (el gs k).2.1 (el gs k).2.2.1 (el gs k).2.2.2.1*(if(nxP gs k).length=0 then 1 else Zt (fun y=>wdP gs R y.toNat) (nxP gs k)):=by
 have hl:R.reverse.length=R.length:=List.length_reverse;have:=wd_done h hE R.reverse.length (Nat.le_refl _) k hk (by rw[List.take_length,List.mem_reverse];exact h.has hk);rw[hl]at this;rw[wdP,this,Dg,Pm];rfl
theorem wdP_pos(h:Ordd gs R)(hE:EdgesIn gs)(hS:Wy gs):∀(n k:Nat),k<gs.length→rk R k≤n→1≤wdP gs R k
 |0,k,hk,hn=>by have:=h.rk_pos hk;omega
 |n+1,k,hk,hn=>by
  have hf:=fact_pos (hS k hk);rw[wdP_eq h hE hk];have hz:1≤(if(nxP gs k).length=0 then 1 else Zt (fun y=>wdP gs R y.toNat) (nxP gs k)):=by
   split
   ·omega
   ·next hne =>
    have hge:=Wk (f:=fun y:Int=>wdP gs R y.toNat) (l:=nxP gs k) fun y hy=>by
     obtain⟨j,hj,rfl,hr⟩:=h.rk_next hE hk y hy;rw[Int.toNat_natCast];exact wdP_pos h hE hS n j hj (by omega)
    omega
  have:=Int.mul_le_mul_of_nonneg_left hz (show 0≤Uf (el gs k).2.1 (el gs k).2.2.1 (el gs k).2.2.2.1 by omega)
  omega
theorem Yi(h:Ordd gs R)(hE:EdgesIn gs)(hS:Wy gs){k:Nat}(hk:k<gs.length):1≤wdP gs R k:=wdP_pos h hE hS _ k hk (Nat.le_refl _)
theorem Lf(h:Ordd gs R)(hE:EdgesIn gs)(hS:Wy gs):Falls gs (fun k _=>wdP gs R k) fun _=>1:=by
 intro k v hk;have hle:=Hp (hS k hk) v;have hc:∀x,Dh gs (fun k _=>wdP gs R k) (fun _=>1) k x=(if(nxP gs k).length=0 then 1 else Zt (fun y=>wdP gs R y.toNat) (nxP gs k)):=fun x=>by unfold Dh;split <;> rfl
 have hz:0≤(if(nxP gs k).length=0 then 1 else Zt (fun y=>wdP gs R y.toNat) (nxP gs k)):=by
  split
  ·omega
  ·refine Xa fun y hy=>?_
   obtain⟨j,hj,rfl,_⟩:=h.rk_next hE hk y hy;have:=Yi h hE hS hj;rw[Int.toNat_natCast];omega
 show _≤wdP gs R k
 rw[Kj (fun x _=>hc x),wdP_eq h hE hk];refine Int.le_trans (Jr (c:=(if(nxP gs k).length=0 then 1 else Zt (fun y=>wdP gs R y.toNat) (nxP gs k))) fun _ _=>Int.le_refl _) ?_;rw[Int.mul_comm];exact Int.mul_le_mul_of_nonneg_right hle hz
theorem maxL_ge:∀{l:List Int}{k:Nat},k<l.length→el l k≤Nf l
 | [],_,h=>by simp at h
 |x::r,0,_=>by rw[Kd,Nf];omega
 |x::r,k+1,h=>by
  have:=maxL_ge (l:=r) (k:=k) (by simpa using h);rw[Vl,Nf];omega
end
theorem wdP_le{gs:List PNode}{k:Nat}(hk:k<gs.length):wdP gs (Zv gs) k≤Ue gs:=maxL_ge (by rw[Kk];exact hk)
theorem mean_len{gs:List PNode}{R:List Int}(h:Ordd gs R)(hE:EdgesIn gs)(hS:Wy gs):∀(n k:Nat)(v:Int),k<gs.length→rk R k≤n→((Xl gs k v).length:Int)≤wdP gs R k
 |0,k,_,hk,hn=>by have:=h.rk_pos hk;omega
 |n+1,k,v,hk,hn=>by
  have hf:=Lf h hE hS k v hk;refine Int.le_trans ?_ hf;have e:((Xl gs k v).length:Int)=Zt (fun _=>1) (Xl gs k v):=by
   have:∀l:List (Int×Int),(l.length:Int)=Zt (fun _=>1) l:=fun l=>by
    induction l with
    |nil=>rfl
    |cons x r ih=>simp only[List.length_cons,Zt];omega
   exact this _
  rw[e,Mw h hE _ hk];refine sumI_le fun x _=>?_
  unfold Dh
  split
  ·exact Int.le_refl _
  ·refine sumI_le fun y hy=>?_
   obtain⟨j,hj,rfl,hr⟩:=h.rk_next hE hk y hy;rw[Int.toNat_natCast];have ih:=mean_len h hE hS n j x hj (by omega);have e2:Zt (fun _:Int×Int=>1) (Xl gs j x)=((Xl gs j x).length:Int):=by
    have:∀l:List (Int×Int),Zt (fun _=>1) l=(l.length:Int):=fun l=>by
     induction l with
     |nil=>rfl
     |cons x r ih=>simp only[List.length_cons,Zt];omega
    exact this _
   show Zt (fun _:Int×Int=>1) (Xl gs j x)≤wdP gs R j
   rw[e2];exact ih
end
section
open Go.RowKit
section
variable {φ:Nat→Int→Int} {ψ:Int×Int→Int} {i:Int}
theorem sum_at{f g:Nat→Int}{k:Nat}(h:∀j,j≠k→f j=g j):∀n,Zt f (List.range n)=Zt g (List.range n)+(if k<n then f k-g k else 0)
 |0=>by simp[Zt]
 |n+1=>by
  rw[List.range_succ,Wb,Wb,Pn,Pn,sum_at h n]
  by_cases e:n=k
  ·subst e;rw[if_neg (by omega),if_pos (by omega)];omega
  ·rw[h n e]
   by_cases hk:k<n
   ·rw[if_pos hk,if_pos (by omega)];omega
   ·rw[if_neg hk,if_neg (by omega)];omega
end
theorem outM_of{gs:List PNode}{k:Nat}{v:Int}(hg:Zg (el gs k).2.1 (el gs k).2.2.1 (el gs k).2.2.2.1=true)(hv:Ju v=true)(hf:¬(Ky gs k v).2.1=true):Tb gs k v=(Ky gs k v).1:=by
 rw[Ky,Uw hg hv]at hf ⊢
 unfold Tb
 rw[if_neg hf]
end
section
open Go.RowKit
theorem Ph{α:Type} [Inhabited α] {L:List α} {k x:Nat} {v:α} (hk:k<L.length):el (L.set k v) x=if x=k then v else el L x:=by
 unfold el
 rw[List.getElem?_set]
 by_cases h:k=x
 ·subst h;simp[hk]
 ·rw[if_neg h,if_neg (fun e=>h e.symm)]
def Qn(out:List Int):List Int→List (List Int)→List (List Int)
 | [],I=>I
 |y::r,I=>Qn out r (I.set y.toNat (el I y.toNat++out))
theorem Uz(out:List Int):∀(nx:List Int)(I:List (List Int)),(Qn out nx I).length=I.length
 | [],_=>rfl
 |y::r,I=>by rw[Qn,Uz out r];simp
theorem Pe(out:List Int):∀(l r:List Int)(I:List (List Int)),Qn out (l++r) I=Qn out r (Qn out l I)
 | [],_,_=>rfl
 |y::l,r,I=>by rw[List.cons_append,Qn,Pe out l r];rfl
theorem intoAll_succ(out:List Int){nx:List Int}{m:Nat}(hm:m<nx.length)(I:List (List Int)):Qn out (nx.take (m+1)) I=(Qn out (nx.take m) I).set (el nx m).toNat (el (Qn out (nx.take m) I) (el nx m).toNat++out):=by
 rw[Zy hm,Pe];rfl
def Uc(n:Nat)(nx:List Int):Prop:=∀y∈nx,∃j:Nat,j<n∧y=(j:Int)
theorem Rb(out:List Int):∀(nx:List Int)(I:List (List Int))(k:Nat),Uc I.length nx→(k:Int)∉nx→el (Qn out nx I) k=el I k
 | [],_,_,_,_=>rfl
 |y::r,I,k,hp,hk=>by
  obtain⟨j,hj,rfl⟩:=hp y (by simp);have hne:k≠j:=fun e=>hk (by simp[e])
  rw[Qn,Int.toNat_natCast,Rb out r _ k (fun z hz=>by rw[List.length_set];exact hp z (by simp[hz])) (fun h=>hk (by simp[h])),Ph hj,if_neg hne]
theorem Rc(out:List Int):∀(nx:List Int)(I:List (List Int))(k:Nat),Uc I.length nx→(el I k).length≤(el (Qn out nx I) k).length
 | [],_,_,_=>Nat.le_refl _
 |y::r,I,k,hp=>by
  obtain⟨j,hj,rfl⟩:=hp y (by simp);rw[Qn,Int.toNat_natCast];refine Nat.le_trans ?_ (Rc out r _ k (fun z hz=>by rw[List.length_set];exact hp z (by simp[hz])));rw[Ph hj]
  split
  ·next e=>subst e;simp
  ·exact Nat.le_refl _
abbrev ES:=List (List Int)×List (Int×Int)
def Nu(gs:List PNode)(k:Nat)(s:ES)(v:Int):ES :=
 (Qn (Tb gs k v) (nxP gs k) s.1,if(nxP gs k).length=0 then s.2++(Tb gs k v).map fun x=>((k:Int),x)else s.2)
def Di(gs:List PNode)(s:ES)(k:Nat):ES:=(el s.1 k).foldl (Nu gs k) s
def Qi(gs:List PNode)(rest:List Int)(s:ES):ES:=rest.foldl (fun s a=>Di gs s a.toNat) s
def Vi(n k:Nat)(v:Int):ES:=((List.replicate n []).set k [v],[])
def emitP(gs:List PNode)(k:Nat)(v:Int):List (Int×Int):=(Qi gs (Zv gs) (Vi gs.length k v)).2
theorem Po(gs:List PNode)(k:Nat)(s:ES)(v:Int):(Nu gs k s v).1.length=s.1.length:=Uz _ _ _
theorem fold_len(gs:List PNode)(k:Nat):∀(vs:List Int)(s:ES),(vs.foldl (Nu gs k) s).1.length=s.1.length
 | [],_=>rfl
 |v::r,s=>by rw[List.foldl_cons,fold_len gs k r,Po]
theorem stepN_len(gs:List PNode)(s:ES)(k:Nat):(Di gs s k).1.length=s.1.length:=fold_len gs k _ _
theorem Ye(gs:List PNode):∀(rest:List Int)(s:ES),(Qi gs rest s).1.length=s.1.length
 | [],_=>rfl
 |a::r,s=>by
  have:=Ye gs r (Di gs s a.toNat);rw[stepN_len]at this;exact this
theorem Bm(gs:List PNode)(a:Int)(r:List Int)(s:ES):Qi gs (a::r) s=Qi gs r (Di gs s a.toNat):=rfl
theorem Cm(gs:List PNode)(l r:List Int)(s:ES):Qi gs (l++r) s=Qi gs r (Qi gs l s):=by rw[Qi,List.foldl_append];rfl
def Ku(φ:Nat→Int→Int)(I:List (List Int))(rest:List Int):Int:=Zt (fun a=>Zt (φ a.toNat) (el I a.toNat)) rest
theorem wRows_off(φ:Nat→Int→Int){I:List (List Int)}{j:Nat}{l:List Int}(hj:j<I.length){rest:List Int}(hp:Uc I.length rest)(hn:(j:Int)∉rest):Ku φ (I.set j l) rest=Ku φ I rest:=by
 refine Kj fun a ha=>?_
 obtain⟨i,hi,rfl⟩:=hp a ha;have hne:i≠j:=fun e=>hn (by rw[←e];exact ha)
 rw[Int.toNat_natCast,Ph hj,if_neg hne]
theorem Lg(φ:Nat→Int→Int){I:List (List Int)}{j:Nat}(out:List Int)(hj:j<I.length):∀{rest:List Int},rest.Nodup→Uc I.length rest→(j:Int)∈rest→Ku φ (I.set j (el I j++out)) rest=Ku φ I rest+Zt (φ j) out
 |a::r,hn,hp,hm=>by
  rw[List.nodup_cons]at hn;obtain⟨i,hi,rfl⟩:=hp a (by simp);have hpr:Uc I.length r:=fun y hy=>hp y (by simp[hy])
  by_cases e:i=j
  ·subst e;have h1:=wRows_off φ (l:=el I i++out) hi hpr hn.1
   unfold Ku at h1 ⊢
   simp only[Zt];rw[h1,Int.toNat_natCast,Ph hi,if_pos rfl,Wb]
   omega
  ·have hm2:(j:Int)∈r:=by
    rcases List.mem_cons.1 hm with h|h
    ·omega
    ·exact h
   have ih:=Lg φ out hj hn.2 hpr hm2
   unfold Ku at ih ⊢
   simp only[Zt];rw[ih,Int.toNat_natCast,Ph hj,if_neg e]
   omega
theorem Fa(φ:Nat→Int→Int)(out:List Int){rest:List Int}(hn:rest.Nodup):∀(nx:List Int)(I:List (List Int)),Uc I.length rest→(∀y∈nx,y∈rest)→Ku φ (Qn out nx I) rest=Ku φ I rest+Zt (fun y=>Zt (φ y.toNat) out) nx
 | [],I,_,_=>by simp[Qn,Zt]
 |y::r,I,hp,hs=>by
  obtain⟨j,hj,rfl⟩:=hp y (hs y (by simp));have ih:=Fa φ out hn r (I.set j (el I j++out)) (fun z hz=>by rw[List.length_set];exact hp z hz) fun z hz=>hs z (by simp[hz])
  rw[Qn,Int.toNat_natCast,ih,Lg φ out hj hn hp (hs _ (by simp))];simp only[Zt,Int.toNat_natCast]
  omega
section
variable {gs:List PNode} {R:List Int} {φ:Nat→Int→Int} {ψ:Int×Int→Int}
theorem stepV_w(hF:Falls gs φ ψ){k:Nat}(hk:k<gs.length){rest:List Int}(hn:rest.Nodup)(s:ES)(v:Int)(hp:Uc s.1.length rest)(hx:∀y∈nxP gs k,y∈rest) :
  Zt ψ (Nu gs k s v).2+Ku φ (Nu gs k s v).1 rest≤Zt ψ s.2+φ k v+Ku φ s.1 rest:=by
 have h:=hF k v hk
 unfold Nu
 dsimp only;rw[Fa φ _ hn _ _ hp hx]
 by_cases h0:(nxP gs k).length=0
 ·have e:nxP gs k=[]:=List.length_eq_zero_iff.1 h0;have e2:Zt ψ ((Tb gs k v).map fun x=>((k:Int),x))=Zt (fun x=>ψ ((k:Int),x)) (Tb gs k v):=sumI_map _ _ _;have hc:Zt (Dh gs φ ψ k) (Tb gs k v)=Zt (fun x=>ψ ((k:Int),x)) (Tb gs k v):=Kj fun x _=>by rw[Dh,if_pos h0]
  have e3:Zt (fun y:Int=>Zt (φ y.toNat) (Tb gs k v)) []=0:=rfl;rw[if_pos h0,Wb,e2,e,e3]
  omega
 ·rw[if_neg h0];have hc:Zt (Dh gs φ ψ k) (Tb gs k v)=Zt (fun x=>Zt (fun y:Int=>φ y.toNat x) (nxP gs k)) (Tb gs k v):=Kj fun x _=>by rw[Dh,if_neg h0]
  have hs:Zt (fun y:Int=>Zt (φ y.toNat) (Tb gs k v)) (nxP gs k)=Zt (fun x=>Zt (fun y:Int=>φ y.toNat x) (nxP gs k)) (Tb gs k v):=sumI_swap (fun(y:Int) (x:Int)=>φ y.toNat x) _ _
  omega
theorem fold_w(hF:Falls gs φ ψ){k:Nat}(hk:k<gs.length){rest:List Int}(hn:rest.Nodup)(hx:∀y∈nxP gs k,y∈rest):∀(vs:List Int)(s:ES),Uc s.1.length rest→
  Zt ψ (vs.foldl (Nu gs k) s).2+Ku φ (vs.foldl (Nu gs k) s).1 rest≤Zt ψ s.2+Zt (φ k) vs+Ku φ s.1 rest
 | [],s,_=>by simp only[List.foldl_nil,Zt];omega
 |v::r,s,hp=>by
  have h1:=stepV_w hF hk hn s v hp hx;have h2:=fold_w hF hk hn hx r (Nu gs k s v) (by rw[Po];exact hp);rw[List.foldl_cons];simp only[Zt]
  omega
theorem Ordd.places(h:Ordd gs R){t:Nat}:Uc gs.length (R.drop t):=fun y hy=>h.rng y (List.mem_of_mem_drop hy)
theorem Ordd.drop_nodup(h:Ordd gs R)(t:Nat):(R.drop t).Nodup:=(List.drop_sublist t R).nodup h.nodup
theorem part_w(h:Ordd gs R)(hE:EdgesIn gs)(hF:Falls gs φ ψ)(s:ES)(hl:s.1.length=gs.length):∀t,t≤R.length→
  Zt ψ (Qi gs (R.take t) s).2+Ku φ (Qi gs (R.take t) s).1 (R.drop t)≤Zt ψ s.2+Ku φ s.1 R
 |0,_=>by rw[List.take_zero,List.drop_zero];exact Int.le_refl _
 |t+1,ht=>by
  have hlt:t<R.length:=by omega
  have ih:=part_w h hE hF s hl t (by omega);obtain⟨k,hk,ek⟩:=h.rng _ (Zl hlt);have hd:R.drop t=(k:Int)::R.drop (t+1):=by rw[←ek,Km hlt,List.getElem_cons_drop]
  rw[Zy hlt,ek,Cm,Bm,Int.toNat_natCast];have hlen:(Qi gs (R.take t) s).1.length=gs.length:=by rw[Ye,hl]
  have hf:=fold_w hF hk (h.drop_nodup (t+1)) (h.next hE hlt ek) (el (Qi gs (R.take t) s).1 k) (Qi gs (R.take t) s) (by rw[hlen];exact h.places);rw[hd]at ih;have e:Ku φ (Qi gs (R.take t) s).1 ((k:Int)::R.drop (t+1))=Zt (φ k) (el (Qi gs (R.take t) s).1 k)+Ku φ (Qi gs (R.take t) s).1 (R.drop (t+1)):=by
   unfold Ku;simp only[Zt,Int.toNat_natCast]
  rw[e]at ih
  show Zt ψ (Di gs (Qi gs (R.take t) s) k).2+Ku φ (Di gs (Qi gs (R.take t) s) k).1 (R.drop (t+1))≤_
  unfold Di
  omega
theorem start_w(h:Ordd gs R){k:Nat}(hk:k<gs.length)(v:Int):Ku φ (Vi gs.length k v).1 R=φ k v:=by
 have hlr:(List.replicate gs.length ([]:List Int)).length=gs.length:=List.length_replicate;have hz:Ku φ (List.replicate gs.length []) R=0:=by
  have:Ku φ (List.replicate gs.length []) R=Zt (fun _=>0) R:=Kj fun a ha=>by
   obtain⟨j,hj,rfl⟩:=h.rng a ha;have:el (List.replicate gs.length ([]:List Int)) ((j:Int)).toNat=[]:=by simp[el,hj]
   rw[this];rfl
  rw[this,Wu]
 have hs:=Lg φ (I:=List.replicate gs.length []) (j:=k) [v] (by rw[hlr];exact hk) h.nodup (fun y hy=>by rw[hlr];exact h.rng y hy) (h.has hk);have he:el (List.replicate gs.length ([]:List Int)) k=[]:=by simp[el,hk]
 rw[he,List.nil_append,hz,Pn]at hs
 unfold Vi
 rw[hs];omega
theorem emit0_len(n k:Nat)(v:Int):(Vi n k v).1.length=n:=by simp[Vi]
theorem emit_le(h:Ordd gs R)(hE:EdgesIn gs)(hF:Falls gs φ ψ){k:Nat}(hk:k<gs.length)(v:Int):Zt ψ (Qi gs R (Vi gs.length k v)).2≤φ k v:=by
 have:=part_w h hE hF (Vi gs.length k v) (emit0_len _ _ _) R.length (Nat.le_refl _);rw[List.take_length,List.drop_length,start_w h hk]at this;have e0:Zt ψ (Vi gs.length k v).2=0:=rfl;have e1:Ku φ (Qi gs R (Vi gs.length k v)).1 []=0:=rfl
 omega
theorem Cl(h:Ordd gs R)(hE:EdgesIn gs)(ψ:Int×Int→Int):Falls gs (fun k v=>Zt ψ (Xl gs k v)) ψ:=fun k v hk=>by
 show _≤Zt ψ (Xl gs k v)
 rw[Mw h hE ψ hk v];exact Int.le_refl _
theorem emit_sum(h:Ordd gs R)(hE:EdgesIn gs)(ψ:Int×Int→Int){k:Nat}(hk:k<gs.length)(v:Int):Zt ψ (Qi gs R (Vi gs.length k v)).2=Zt ψ (Xl gs k v):=by
 have h1:=emit_le h hE (Cl h hE ψ) hk v;have h2:=emit_le h hE (Cl h hE fun e => - ψ e) hk v;simp only[sumI_neg]at h2
 omega
theorem emit_perm(h:Ordd gs R)(hE:EdgesIn gs){k:Nat}(hk:k<gs.length)(v:Int):(Qi gs R (Vi gs.length k v)).2.Perm (Xl gs k v):=perm_of_sums fun ψ=>emit_sum h hE ψ hk v
end
end
end Go.Proofs.YtdacedbfnlkghaaGreatDoor