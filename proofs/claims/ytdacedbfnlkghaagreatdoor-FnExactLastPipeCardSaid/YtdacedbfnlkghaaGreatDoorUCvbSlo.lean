/- Of each item the account is what it means: kept by moves. Plain. Running out, plainly: each step makes a measure fall, and behind the last step all boxes are empty. Running out ends, plainly. What a script's pipe holds, plainly: moves and runs keep it. The lines of a text: the program. No conditions but those written. -/
import Derived.Test.YtdacedbfnlkghaaGreatDoorUMeMg
namespace Go.Proofs.YtdacedbfnlkghaaGreatDoor
set_option maxHeartbeats 4000000
set_option maxRecDepth 10000
open Go.RowKit Go.Proofs.Tryz
section
open Go.RowKit
theorem failT_it(s:PP):(failT s).it=s.it:=by unfold failT;split <;> rfl
section
variable {E:Nat→Int→List (Int×Int)} {i:Int}
end
end
section
open Go.RowKit
def Ko(gs:List PNode):List Int→PP→Bool×PP
 | [],s=>(false,s)
 |x::r,s=>if(Qk gs s x).1=0 then(true,(Qk gs s x).2)else Ko gs r s
theorem Yc{gs:List PNode}{s:PP}:∀{l:List Int},(Ko gs l s).1=true→∃x∈l,(Qk gs s x).1=0∧(Ko gs l s).2=(Qk gs s x).2
 | [],h=>by cases h
 |x::r,h=>by
  rw[Ko]at h ⊢
  split
  ·rename_i h0;exact⟨x,by simp,h0,rfl⟩
  ·rename_i h0;rw[if_neg h0]at h;obtain⟨y,hy,h1,h2⟩:=Yc h;exact⟨y,List.mem_cons_of_mem _ hy,h1,h2⟩
theorem Lq{gs:List PNode}{s:PP}:∀{l:List Int},(Ko gs l s).1≠true→(Ko gs l s).2=s
 | [],_=>rfl
 |x::r,h=>by
  rw[Ko]at h ⊢
  split
  ·rename_i h0;rw[if_pos h0]at h;exact absurd rfl h
  ·rename_i h0;rw[if_neg h0]at h;exact Lq h
theorem Ln{gs:List PNode}{s:PP}{m:Int}(h:(Qk gs s m).1≠0):(Qk gs s m).2=s:=by
 unfold Qk at h ⊢
 split at h
 ·rename_i hin;rw[if_pos hin]
  split at h
  ·rfl
  ·rename_i t r e
   split at h
   ·exact absurd rfl h
   ·rename_i h1;rw[if_neg h1]
    split at h
    ·rename_i h2;rw[if_pos h2]
    ·exact absurd rfl h
 ·rename_i hin;rw[if_neg hin]
theorem Ho{gs:List PNode}{s:PP}{m:Int}(h:(Qk gs s m).1=0):∃(k:Nat)(t1 t2 t3:Int)(r:List (Int×Int×Int)),m=(k:Int)∧k<s.bx.length∧el s.bx k=(t1,t2,t3)::r∧
  ((Qk gs s m).2=Kw s k t1 t2 t3 r∨(¬(Ky gs k t2).2.1=true∧(Qk gs s m).2=Zu gs k t1 (Ky gs k t2).1 { s with bx:=s.bx.set k r })):=by
 unfold Qk at h ⊢
 split at h
 ·rename_i hin;obtain⟨k,rfl⟩:∃k:Nat,m=(k:Int):=⟨m.toNat,by omega⟩;rw[if_pos hin];rw[Int.toNat_natCast]at h ⊢
  split at h
  ·cases h
  ·rename_i t r e;obtain⟨t1,t2,t3⟩:=t;refine⟨k,t1,t2,t3,r,rfl,by omega,e,?_⟩;dsimp only at h ⊢
   split at h
   ·rename_i h1;rw[if_pos h1];exact .inl rfl
   ·rename_i h1;rw[if_neg h1]
    split at h
    ·cases h
    ·rename_i h2;rw[if_neg h2];exact .inr ⟨h1,rfl⟩
 ·cases h
def Vg(f:Nat→Int×Int×Int→Int)(bx:List (List (Int×Int×Int))):Int:=Zt (fun k=>Zt (f k) (el bx k)) (List.range bx.length)
section
variable {f:Nat→Int×Int×Int→Int}
theorem Rs{bx:List (List (Int×Int×Int))}{k:Nat}(hk:k<bx.length)(x:List (Int×Int×Int)):Vg f (bx.set k x)=Vg f bx-Zt (f k) (el bx k)+Zt (f k) x:=by
 unfold Vg
 rw[List.length_set];have h:=sum_at (f:=fun j=>Zt (f j) (el (bx.set k x) j)) (g:=fun j=>Zt (f j) (el bx j)) (k:=k) (fun j hj=>by show Zt (f j) (el (bx.set k x) j)=_;rw[Zm hj]) bx.length;rw[if_pos hk]at h
 try dsimp only at h
 rw[Zh hk]at h
 omega
theorem bxsF_puts(t:Int×Int×Int):∀(l:List Int)(bx:List (List (Int×Int×Int))),(∀x∈l,∃j:Nat,j<bx.length∧x=(j:Int))→Vg f (Jk t bx l)=Vg f bx+Zt (fun y=>f y.toNat t) l
 | [],bx,_=>by show Vg f bx=Vg f bx+0;omega
 |y::r,bx,h=>by
  obtain⟨j,hj,rfl⟩:=h y (by simp);rw[Jk,bxsF_puts t r _ (fun x hx=>by rw[List.length_set];exact h x (List.mem_cons_of_mem _ hx)),Int.toNat_natCast,Rs hj,Wb,Pn]
  show _=_+(f (j:Int).toNat t+Zt (fun y=>f y.toNat t) r)
  rw[Int.toNat_natCast]
  omega
theorem bxsF_empty{bx:List (List (Int×Int×Int))}(h:∀k,k<bx.length→el bx k=[]):Vg f bx=0:=by
 unfold Vg
 rw[Kj (g:=fun _=>0) (fun k hk=>by show Zt (f k) (el bx k)=0;rw[h k (List.mem_range.1 hk)];rfl),Wu]
theorem bxsF_clr(bx:List (List (Int×Int×Int))):Vg f (clr bx bx.length)=0:=bxsF_empty fun k _=>el_clr bx k
theorem bxsF_nn{bx:List (List (Int×Int×Int))}(h:∀k t,k<bx.length→t∈el bx k→0≤f k t):0≤Vg f bx :=
 Xa fun k hk=>Xa fun t ht=>h k t (List.mem_range.1 hk) ht
theorem bxsF_lead{gs:List PNode}(hE:EdgesIn gs){s:PP}(hn:s.bx.length=gs.length){k:Nat}(hk:k<gs.length)(it v:Int):Vg f (Kb gs s k it v).bx=Vg f s.bx+Zt (fun y=>f y.toNat (it,v,0)) (nxP gs k):=by
 unfold Kb
 split
 ·rename_i h;rw[List.length_eq_zero_iff.1 h]
  show Vg f s.bx=Vg f s.bx+0
  omega
 ·exact bxsF_puts _ _ _ (fun x hx=>by obtain⟨j,hj,e⟩:=hE.rng k hk x hx;exact⟨j,by omega,e⟩)
theorem Gi{gs:List PNode}(hE:EdgesIn gs){k:Nat}(hk:k<gs.length)(it:Int):∀(l:List Int)(s:PP),s.bx.length=gs.length→Vg f (Zu gs k it l s).bx=Vg f s.bx+Zt (fun v=>Zt (fun y=>f y.toNat (it,v,0)) (nxP gs k)) l
 | [],s,_=>by show Vg f s.bx=Vg f s.bx+0;omega
 |v::r,s,hn=>by
  rw[Zu,Gi hE hk it r _ (by rw[Mh];exact hn),bxsF_lead hE hn hk]
  show _=_+(Zt (fun y=>f y.toNat (it,v,0)) (nxP gs k)+Zt (fun v=>Zt (fun y=>f y.toNat (it,v,0)) (nxP gs k)) r)
  omega
theorem bxsF_fail{c:Int}{s:PP}{k:Nat}{t1 t2 t3:Int}{r:List (Int×Int×Int)}(hk:k<s.bx.length)(hr:el s.bx k=(t1,t2,t3)::r)(h1:t3+1≤3→f k (t1,t2,t3+1)≤f k (t1,t2,t3)-c)(h2:3<t3+1→c≤f k (t1,t2,t3))(h0:0≤Vg f s.bx-c) :
  Vg f (Kw s k t1 t2 t3 r).bx≤Vg f s.bx-c:=by
 have hT:∀s2:PP,Vg f s2.bx≤Vg f s.bx-c→Vg f (failT s2).bx≤Vg f s.bx-c:=fun s2 h=>by
  unfold failT
  split
  ·show Vg f (clr s2.bx s2.bx.length)≤_
   rw[bxsF_clr];exact h0
  ·exact h
 unfold Kw
 refine hT _ ?_
 split
 ·rename_i h3
  show Vg f (s.bx.set k r)≤_
  rw[Rs hk,hr]
  show Vg f s.bx-(f k (t1,t2,t3)+Zt (f k) r)+Zt (f k) r≤_
  have:=h2 h3
  omega
 ·rename_i h3
  show Vg f (s.bx.set k ((t1,t2,t3+1)::r))≤_
  rw[Rs hk,hr]
  show Vg f s.bx-(f k (t1,t2,t3)+Zt (f k) r)+(f k (t1,t2,t3+1)+Zt (f k) r)≤_
  have:=h1 (by omega)
  omega
end
theorem Cn(gs:List PNode)(k:Nat)(it:Int):∀(l:List Int)(s:PP),(Zu gs k it l s).em.length=s.em.length+(if(nxP gs k).length=0 then l.length else 0)
 | [],s=>by rw[Zu];split <;> simp
 |v::r,s=>by
  rw[Zu,Cn gs k it r]
  unfold Kb
  split
  ·rw[List.length_append,List.length_singleton,List.length_cons];omega
  ·rfl
theorem em_failP(s:PP)(k:Nat)(t1 t2 t3:Int)(r:List (Int×Int×Int)):(Kw s k t1 t2 t3 r).em=s.em:=by
 unfold Kw failT
 split <;> split <;> rfl
theorem Ll{c:Nat}:∀{ls:List (List (Int×Int×Int))},(∀k,k<ls.length→(el ls k).length≤c)→Zs ls≤c*ls.length
 | [],_=>Nat.zero_le _
 |x::r,h=>by
  have h1:=Ll (ls:=r) fun k hk=>by have:=h (k+1) (by simp;omega);rwa [Vl]at this
  have h2:=h 0 (by simp);rw[Kd]at h2;rw[Wt,List.length_cons,Nat.mul_succ]
  omega
theorem tot_zero{ls:List (List (Int×Int×Int))}(h:∀k,k<ls.length→el ls k=[]):Zs ls=0:=by
 have:=Ll (c:=0) (ls:=ls) fun k hk=>by rw[h k hk];simp
 omega
theorem Li{gs:List PNode}(hG:GoodE gs){s:PP}(hI:InvS gs s)(hn:s.bx.length=gs.length):Zs s.bx≤80:=by
 have h1:=Ll (c:=8) (ls:=s.bx) fun k hk=>by
  have h2:=hI.cap k (by omega);have h3:=(hG.cap k (by omega)).2
  omega
 have:=hG.edg.many
 omega
theorem above_again(zs:List Int)(ti:Int):Qg (Qg zs (ti-10)++[ti]) (ti-10)=Qg zs (ti-10)++[ti]:=by
 unfold Qg
 rw[List.filter_append,List.filter_filter,List.filter_cons,if_pos (by simp;omega),List.filter_nil]
 congr 1
 refine List.filter_congr fun x _=>by simp
theorem fa_failT{F:Nat}{s2:PP}(h:s2.fa.length≤F+(Qg s2.fu (s2.ti-10)).length+1)(ht:Zs s2.bx≤80)(hfu:s2.fu.length≤5) :
  (Zs (failT s2).bx≠0→(failT s2).fa.length≤F+(Qg (failT s2).fu ((failT s2).ti-10)).length)∧(failT s2).fa.length≤F+86:=by
 have ha:=Wg s2.fu (s2.ti-10);have hc:=(Hl s2.bx s2.bx.length).resolve_right (by omega)
 unfold failT
 split
 ·refine⟨fun h0=>absurd (show Zs (clr s2.bx s2.bx.length)=0 from tot_zero fun k _=>el_clr _ _) h0,?_⟩
  show(s2.fa++Jc s2.bx s2.bx.length).length≤_
  rw[List.length_append]
  omega
 ·refine⟨fun _=>?_,?_⟩
  ·show s2.fa.length≤F+(Qg (Qg s2.fu (s2.ti-10)++[s2.ti]) (s2.ti-10)).length
   rw[above_again,List.length_append,List.length_singleton];omega
  ·show s2.fa.length≤_
   omega
end
structure RunI(gs:List PNode)(E F:Nat)(s:PP):Prop where
 bnd:∃n,BndP gs.length n s
 inv:InvS gs s
 em:(s.em.length:Int)+Vg (fun k _=>wdP gs (Zv gs) k) s.bx≤(E:Int)
 fa:Zs s.bx≠0→s.fa.length≤F+(Qg s.fu (s.ti-10)).length
 fa2:s.fa.length≤F+86
theorem RunI.len{gs:List PNode}{E F:Nat}{s:PP}(h:RunI gs E F s):s.bx.length=gs.length:=by obtain⟨n,hn⟩:=h.bnd;exact hn.len
theorem RunI.tr{gs:List PNode}{E F:Nat}{s:PP}(h:RunI gs E F s):TrB s.bx:=by obtain⟨n,hn⟩:=h.bnd;exact hn.tr
theorem tot_pos{s:PP}{k:Nat}{t:Int×Int×Int}{r:List (Int×Int×Int)}(hk:k<s.bx.length)(hr:el s.bx k=t::r):Zs s.bx≠0:=by
 have:=Kl hk;rw[hr,List.length_cons]at this
 omega
theorem RunI.step{gs:List PNode}(hG:GoodE gs)(hR:Ordd gs (Zv gs)){E F:Nat}{s:PP}(h:RunI gs E F s)(m:Int):RunI gs E F (Qk gs s m).2:=by
 by_cases h0:(Qk gs s m).1=0
 ·have hb:∃n,BndP gs.length n (Qk gs s m).2:=by obtain⟨n,hn⟩:=h.bnd;exact⟨n+1,hn.step hG.edg m⟩
  have hi:=h.inv.step hG h.len m;obtain⟨k,t1,t2,t3,r,rfl,hk,hr,hc⟩:=Ho h0;have hkg:k<gs.length:=by have:=h.len;omega
  have hw1:=Yi hR hG.edg hG.st hkg;have hne:=tot_pos hk hr;have hfa:=h.fa hne;have hwn:0≤Vg (fun k _=>wdP gs (Zv gs) k) s.bx:=bxsF_nn fun j t hj _=>by have:=Yi hR hG.edg hG.st (show j<gs.length by have:=h.len;omega);omega
  rcases hc with hc|⟨hno,hc⟩
  ·rw[hc]at hb hi ⊢;have he:=bxsF_fail (f:=fun k _=>wdP gs (Zv gs) k) (c:=0) hk hr (fun _=>by show wdP gs (Zv gs) k≤wdP gs (Zv gs) k-0;omega) (fun _=>by show 0≤wdP gs (Zv gs) k;omega) (by omega);obtain⟨n,hn⟩:=h.bnd;have hcap:=h.inv.cap k hkg;rw[hr,List.length_cons]at hcap;have hrr:∀t∈r,Ju t.2.1=true:=fun t ht=>h.inv.val k t (by rw[hr];exact List.mem_cons_of_mem _ ht)
   have hv:=h.inv.val k (t1,t2,t3) (by rw[hr];simp);have hff:(Zs (Kw s k t1 t2 t3 r).bx≠0→(Kw s k t1 t2 t3 r).fa.length≤F+(Qg (Kw s k t1 t2 t3 r).fu ((Kw s k t1 t2 t3 r).ti-10)).length)∧(Kw s k t1 t2 t3 r).fa.length≤F+86:=by
    unfold Kw
    split
    ·refine fa_failT ?_ (Li hG (s:={ s with bx:=s.bx.set k r,fa:=s.fa++[(t1,(k:Int),t2,1)] }) ⟨h.inv.cap.set k (by omega),h.inv.val.set k hrr⟩ ((List.length_set ..).trans h.len)) hn.fu
     show(s.fa++[(t1,(k:Int),t2,1)]).length≤F+(Qg s.fu (s.ti-10)).length+1
     rw[List.length_append,List.length_singleton];omega
    ·refine fa_failT ?_ (Li hG (s:={ s with bx:=s.bx.set k ((t1,t2,t3+1)::r) }) ⟨h.inv.cap.set k (by simp only[List.length_cons];omega),h.inv.val.set k fun t ht=>?_⟩ ((List.length_set ..).trans h.len)) hn.fu
     ·show s.fa.length≤F+(Qg s.fu (s.ti-10)).length+1
      omega
     ·rcases List.mem_cons.1 ht with rfl|h1
      ·exact hv
      ·exact hrr t h1
   exact⟨hb,hi,by rw[em_failP];have:=h.em;omega,hff.1,hff.2⟩
  ·rw[hc]at hb hi ⊢;have hol:(Ky gs k t2).1.length≤3:=Ru _ _ _ _;have hval:=h.inv.val k (t1,t2,t3) (by rw[hr];simp);have houtM:=outM_of (gs:=gs) (k:=k) (v:=t2) (hG.st k hkg) hval hno;have hlm:=Hp (hG.st k hkg) t2;rw[houtM]at hlm;have hsame:=Wd gs k t1 (Ky gs k t2).1 { s with bx:=s.bx.set k r };obtain⟨s1,s2,s3,_,_⟩:=hsame;dsimp only at s1 s2 s3;have hpe:=Gi (f:=fun k _=>wdP gs (Zv gs) k) hG.edg hkg t1 (Ky gs k t2).1 { s with bx:=s.bx.set k r } ((List.length_set ..).trans h.len);have hps:=Rs (f:=fun k _=>wdP gs (Zv gs) k) hk r;rw[hr]at hps;have hps2:Vg (fun k _=>wdP gs (Zv gs) k) (s.bx.set k r)=Vg (fun k _=>wdP gs (Zv gs) k) s.bx-wdP gs (Zv gs) k:=by
    rw[hps]
    show Vg (fun k _=>wdP gs (Zv gs) k) s.bx-(wdP gs (Zv gs) k+Zt (fun _=>wdP gs (Zv gs) k) r)+Zt (fun _=>wdP gs (Zv gs) k) r=_
    omega
   have hem:=Cn gs k t1 (Ky gs k t2).1 { s with bx:=s.bx.set k r };have hwe:=wdP_eq hR hG.edg hkg;have hfp:=fact_pos (hG.st k hkg);refine⟨hb,hi,?_,fun _=>by rw[s1,s2,s3];exact hfa,by rw[s1];exact h.fa2⟩;rw[hem,hpe,hps2];dsimp only;have hE:=h.em;have hsum:=Jr (f:=fun _:Int=>Zt (fun y:Int=>wdP gs (Zv gs) y.toNat) (nxP gs k)) (c:=Zt (fun y:Int=>wdP gs (Zv gs) y.toNat) (nxP gs k)) (l:=(Ky gs k t2).1) fun _ _=>Int.le_refl _
   by_cases hz:(nxP gs k).length=0
   ·rw[if_pos hz]at hwe ⊢;have hz2:Zt (fun y:Int=>wdP gs (Zv gs) y.toNat) (nxP gs k)=0:=by rw[List.length_eq_zero_iff.1 hz];rfl
    rw[hz2]at hsum;have:Zt (fun _:Int=>Zt (fun y:Int=>wdP gs (Zv gs) y.toNat) (nxP gs k)) (Ky gs k t2).1≤0:=by rw[hz2];omega
    rw[Int.mul_one]at hwe
    omega
   ·rw[if_neg hz]at hwe ⊢;have hz0:0≤Zt (fun y:Int=>wdP gs (Zv gs) y.toNat) (nxP gs k):=Xa fun y hy=>by
     obtain⟨j,hj,rfl⟩:=hG.edg.rng k hkg y hy;have:=Yi hR hG.edg hG.st hj;rw[Int.toNat_natCast];omega
    have h5:Zt (fun y:Int=>wdP gs (Zv gs) y.toNat) (nxP gs k)*((Ky gs k t2).1.length:Int)≤wdP gs (Zv gs) k:=by rw[hwe,Int.mul_comm _ (Zt _ _)];exact Int.mul_le_mul_of_nonneg_left hlm hz0
    omega
 ·rw[Ln h0];exact h
def Nd(gs:List PNode)(k:Nat)(t:Int×Int×Int):Int:=5*((31 ^ rk (Zv gs) k:Nat):Int)-t.2.2
def phiS(gs:List PNode)(s:PP):Int:=Vg (Nd gs) s.bx
theorem pow_pos31(n:Nat):1≤31 ^ n:=Nat.pow_pos (by omega)
theorem phi_pos{gs:List PNode}{s:PP}(hT:TrB s.bx){k:Nat}{t:Int×Int×Int}(ht:t∈el s.bx k):2≤Nd gs k t:=by
 have:=hT k t ht;have:=pow_pos31 (rk (Zv gs) k)
 unfold Nd
 omega
theorem phi_nn{gs:List PNode}{s:PP}(hT:TrB s.bx):0≤phiS gs s:=bxsF_nn fun k t _ ht=>by have:=phi_pos (gs:=gs) hT ht;omega
theorem phi_ge{gs:List PNode}{s:PP}(hT:TrB s.bx){k:Nat}(hk:k<s.bx.length){t:Int×Int×Int}(ht:t∈el s.bx k):Nd gs k t≤phiS gs s:=by
 have h1:Nd gs k t≤Zt (Nd gs k) (el s.bx k):=Hn ht fun y hy=>by have:=phi_pos (gs:=gs) hT hy;omega
 have h2:Zt (Nd gs k) (el s.bx k)≤phiS gs s:=Hn (f:=fun k=>Zt (Nd gs k) (el s.bx k)) (List.mem_range.2 hk) fun j _=>Xa fun y hy=>by have:=phi_pos (gs:=gs) hT hy;omega
 omega
theorem phi_step{gs:List PNode}(hG:GoodE gs)(hR:Ordd gs (Zv gs)){E F:Nat}{s:PP}(h:RunI gs E F s){m:Int}(h0:(Qk gs s m).1=0):phiS gs (Qk gs s m).2+1≤phiS gs s:=by
 obtain⟨k,t1,t2,t3,r,rfl,hk,hr,hc⟩:=Ho h0;have hkg:k<gs.length:=by have:=h.len;omega
 have hm:(t1,t2,t3)∈el s.bx k:=by rw[hr];simp
 have hp:=phi_pos (gs:=gs) h.tr hm;have hg:=phi_ge (gs:=gs) h.tr hk hm;have htr:=h.tr k _ hm;dsimp only at htr
 rcases hc with hc|⟨hno,hc⟩
 ·rw[hc];have:=bxsF_fail (f:=Nd gs) (c:=1) hk hr (fun _=>by show 5*((31 ^ rk (Zv gs) k:Nat):Int)-(t3+1)≤5*((31 ^ rk (Zv gs) k:Nat):Int)-t3-1;omega) (fun _=>by omega) (by show 0≤phiS gs s-1;omega)
  show Vg (Nd gs) (Kw s k t1 t2 t3 r).bx+1≤Vg (Nd gs) s.bx
  omega
 ·rw[hc];have hol:(Ky gs k t2).1.length≤3:=Ru _ _ _ _;have hfew:=hG.edg.few k hkg;have hpe:=Gi (f:=Nd gs) hG.edg hkg t1 (Ky gs k t2).1 { s with bx:=s.bx.set k r } ((List.length_set ..).trans h.len);have hps:=Rs (f:=Nd gs) hk r;rw[hr]at hps;have hps2:Vg (Nd gs) (s.bx.set k r)=Vg (Nd gs) s.bx-Nd gs k (t1,t2,t3):=by
   rw[hps]
   show Vg (Nd gs) s.bx-(Nd gs k (t1,t2,t3)+Zt (Nd gs k) r)+Zt (Nd gs k) r=_
   omega
  obtain⟨q,hq⟩:∃q,rk (Zv gs) k=q+1:=⟨rk (Zv gs) k-1,by have:=hR.rk_pos hkg;omega⟩;have hx:=pow_pos31 q;have hpw:Nd gs k (t1,t2,t3)=155*((31 ^ q:Nat):Int)-t3:=by
   unfold Nd
   rw[hq,Nat.pow_succ];dsimp only
   omega
  obtain⟨x,hxx⟩:∃x:Nat,x=31 ^ q:=⟨_,rfl⟩;have hin:∀v:Int,Zt (fun y:Int=>Nd gs y.toNat (t1,v,0)) (nxP gs k)≤50*(x:Int):=fun v=>by
   have h1:=Jr (f:=fun y:Int=>Nd gs y.toNat (t1,v,0)) (c:=5*(x:Int)) (l:=nxP gs k) fun y hy=>by
    obtain⟨j,hj,rfl,hlt⟩:=hR.rk_next hG.edg hkg y hy;have hle:31 ^ rk (Zv gs) j≤31 ^ q:=Nat.pow_le_pow_right (by omega) (by omega)
    show 5*((31 ^ rk (Zv gs) (j:Int).toNat:Nat):Int)-0≤5*(x:Int)
    rw[Int.toNat_natCast,hxx]
    omega
   have h2:=Int.mul_le_mul_of_nonneg_left (show((nxP gs k).length:Int)≤10 by omega) (show 0≤5*(x:Int)by omega)
   omega
  have hout:=Jr (f:=fun v:Int=>Zt (fun y:Int=>Nd gs y.toNat (t1,v,0)) (nxP gs k)) (c:=50*(x:Int)) (l:=(Ky gs k t2).1) fun v _=>hin v
  have h2:=Int.mul_le_mul_of_nonneg_left (show((Ky gs k t2).1.length:Int)≤3 by omega) (show 0≤50*(x:Int)by omega)
  show Vg (Nd gs) (Zu gs k t1 (Ky gs k t2).1 { s with bx:=s.bx.set k r }).bx+1≤Vg (Nd gs) s.bx
  rw[hpe]
  show Vg (Nd gs) (s.bx.set k r)+_+1≤_
  rw[hps2,hpw,←hxx];rw[←hxx]at hx
  omega
theorem last_some{gs:List PNode}(hG:GoodE gs)(hR:Ordd gs (Zv gs)){E F:Nat}{s:PP}(h:RunI gs E F s):∀(l pre:List Int),pre++l=(Zv gs).reverse→(∀y∈pre,el s.bx y.toNat=[])→(Ko gs l s).1=true∨∀y∈(Zv gs).reverse,el s.bx y.toNat=[]
 | [],pre,e,hp=>.inr fun y hy=>hp y (by rw[←e,List.append_nil]at hy;exact hy)
 |x::r,pre,e,hp=>by
  rw[Ko]
  split
  ·exact .inl rfl
  ·rename_i h0;refine last_some hG hR h r (pre++[x]) (by rw[←e,List.append_assoc];rfl) fun y hy=>?_
   rcases List.mem_append.1 hy with h1|h1
   ·exact hp y h1
   ·rw[List.mem_singleton.1 h1];have hxm:x∈(Zv gs).reverse:=by rw[←e];simp
    obtain⟨k,hk,rfl⟩:=hR.rng x (List.mem_reverse.1 hxm);rw[Int.toNat_natCast];have hkb:k<s.bx.length:=by have:=h.len;omega
    cases hb:el s.bx k with
    |nil=>rfl
    |cons t rr =>
     exfalso
     refine h0 ?_;have hel:el (Zv gs).reverse pre.length=(k:Int):=by
      rw[←e];have:=Hb pre ((k:Int)::r) 0;rw[Nat.add_zero,Kd]at this;exact this
     have hpl:pre.length<(Zv gs).reverse.length:=by rw[←e,List.length_append,List.length_cons];omega
     have hnx:=hR.nx_take hG.edg hpl hel;rw[←e,List.take_left]at hnx;have hblk:¬blkP gs s.bx k ((Ky gs k t.2.1).1.length:Int)=true:=fun hB=>by
      unfold blkP at hB
      rw[List.any_eq_true]at hB;obtain⟨y,hy,hd⟩:=hB;have hd2:=of_decide_eq_true hd;obtain⟨j,hj,rfl⟩:=hG.edg.rng k hk y hy;rw[hp _ (hnx _ hy),Int.toNat_natCast]at hd2;have h3:=(hG.cap j hj).1;have hol:(Ky gs k t.2.1).1.length≤3:=Ru _ _ _ _;simp only[List.length_nil]at hd2
      omega
     unfold Qk
     rw[if_pos ⟨by omega,by omega⟩,Int.toNat_natCast,hb];dsimp only
     repeat' split
     all_goals first|rfl|(rename_i hz;exact absurd hz hblk)
def itS(gs:List PNode):Nat→PP→PP
 |0,s=>s
 |n+1,s=>(Ko gs (Zv gs).reverse (itS gs n s)).2
theorem itS_next(gs:List PNode):∀(n:Nat)(s:PP),itS gs (n+1) s=itS gs n (Ko gs (Zv gs).reverse s).2
 |0,_=>rfl
 |n+1,s=>by rw[itS,itS_next gs n s,itS]
theorem RunI.next{gs:List PNode}(hG:GoodE gs)(hR:Ordd gs (Zv gs)){E F:Nat}{s:PP}(h:RunI gs E F s):RunI gs E F (Ko gs (Zv gs).reverse s).2:=by
 by_cases hl:(Ko gs (Zv gs).reverse s).1=true
 ·obtain⟨x,_,_,e⟩:=Yc hl;rw[e];exact h.step hG hR x
 ·rw[Lq hl];exact h
theorem RunI.it{gs:List PNode}(hG:GoodE gs)(hR:Ordd gs (Zv gs)){E F:Nat}{s:PP}(h:RunI gs E F s):∀n,RunI gs E F (itS gs n s)
 |0=>h
 |n+1=>(RunI.it hG hR h n).next hG hR
theorem Rw{gs:List PNode}(hG:GoodE gs)(hR:Ordd gs (Zv gs)){E F:Nat}{s:PP}(h:RunI gs E F s)(ht:Zs s.bx≠0):(Ko gs (Zv gs).reverse s).1=true:=by
 rcases last_some hG hR h (Zv gs).reverse [] rfl (fun y hy=>by cases hy)with h1|h1
 ·exact h1
 ·exact absurd (tot_zero fun k hk=>by
   have:=h1 (k:Int) (List.mem_reverse.2 (hR.has (by have:=h.len;omega)))
   rwa [Int.toNat_natCast]at this) ht
structure Halts(gs:List PNode)(s:PP)(K:Nat):Prop where
 stop:Zs (itS gs K s).bx=0
 go:∀k,k<K→Zs (itS gs k s).bx≠0
theorem halts{gs:List PNode}(hG:GoodE gs)(hR:Ordd gs (Zv gs)){E F:Nat}:∀(n:Nat)(s:PP),RunI gs E F s→phiS gs s≤(n:Int)→∃K,K≤n∧Halts gs s K
 |0,s,h,hp=>by
  by_cases ht:Zs s.bx=0
  ·exact⟨0,Nat.le_refl _,ht,fun k hk=>absurd hk (Nat.not_lt_zero _)⟩
  ·obtain⟨x,_,h0,e⟩:=Yc (Rw hG hR h ht);have h1:=phi_step hG hR h h0;have h2:=phi_nn (gs:=gs) (h.step hG hR x).tr
   omega
 |n+1,s,h,hp=>by
  by_cases ht:Zs s.bx=0
  ·exact⟨0,Nat.zero_le _,ht,fun k hk=>absurd hk (Nat.not_lt_zero _)⟩
  ·obtain⟨x,_,h0,e⟩:=Yc (Rw hG hR h ht);have h1:=phi_step hG hR h h0;obtain⟨K,hK,hH⟩:=halts hG hR n (Ko gs (Zv gs).reverse s).2 (h.next hG hR) (by rw[e];omega);refine⟨K+1,by omega,by rw[itS_next];exact hH.stop,fun k hk=>?_⟩
   cases k with
   |zero=>exact ht
   |succ k=>rw[itS_next];exact hH.go k (by omega)
theorem phi_most{gs:List PNode}(hG:GoodE gs){E F:Nat}{s:PP}(h:RunI gs E F s)(hR:Ordd gs (Zv gs)):phiS gs s≤400*31 ^ 10:=by
 have hn:=hG.edg.many;have h1:=Jr (f:=fun k=>Zt (Nd gs k) (el s.bx k)) (c:=40*31 ^ 10) (l:=List.range s.bx.length) fun k hk=>by
  have hk2:=List.mem_range.1 hk;have hc:=h.inv.cap k (by have:=h.len;omega);have hc2:=(hG.cap k (by have:=h.len;omega)).2;have h2:=Jr (f:=Nd gs k) (c:=5*31 ^ 10) (l:=el s.bx k) fun t ht=>by
   have h3:=hR.rk_le k;have h4:31 ^ rk (Zv gs) k≤31 ^ 10:=Nat.pow_le_pow_right (by omega) (by omega);have h5:=h.tr k t ht
   unfold Nd
   omega
  show Zt (Nd gs k) (el s.bx k)≤_
  omega
 rw[List.length_range,h.len]at h1
 show Zt (fun k=>Zt (Nd gs k) (el s.bx k)) (List.range s.bx.length)≤_
 rw[h.len]
 omega
structure DryP(N:Nat)(s:PP):Prop where
 len:s.bx.length=N
 cl:s.cl=true
 dry:Zs s.bx=0
 fa:s.fa.length≤9086
 em:s.em.length≤40000
 fu:s.fu.length≤5
 ti0:0≤s.ti
 ti1:s.ti≤1000000
 it0:0≤s.it
 it1:s.it≤300
structure ScI(gs:List PNode)(n:Nat)(s:PP):Prop where
 inv:InvS gs s
 bnd:BndP gs.length n s∨DryP gs.length s
theorem dry_el{bx:List (List (Int×Int×Int))}(h:Zs bx=0)(k:Nat):el bx k=[]:=by
 by_cases hk:k<bx.length
 ·have:=Kl hk;exact List.length_eq_zero_iff.1 (by omega)
 ·rw[el,List.getElem?_eq_none (by omega)];rfl
theorem DryP.tr{N:Nat}{s:PP}(h:DryP N s):TrB s.bx:=fun k t ht=>by rw[dry_el h.dry k]at ht;cases ht
theorem ScI.len{gs:List PNode}{n:Nat}{s:PP}(h:ScI gs n s):s.bx.length=gs.length:=h.bnd.elim (fun h=>h.len) fun h=>h.len
theorem ScI.raw{gs:List PNode}{n:Nat}{s:PP}(h:ScI gs n s)(hn:n≤300):RawP gs.length s:=by
 rcases h.bnd with h|h
 ·have h1:=h.tot;have h2:=h.em;have h3:=h.it1;exact⟨h.len,by omega,by omega,h.fu,h.ti0,h.ti1,h.it0,by omega,h.tr⟩
 ·have h1:=h.fa;have h2:=h.em;have h3:=h.it1;have h4:=h.dry;exact⟨h.len,by omega,by omega,h.fu,h.ti0,h.ti1,h.it0,by omega,h.tr⟩
theorem DryP.move{gs:List PNode}{src:List Int}{N:Nat}{s:PP}(h:DryP N s)(m1 m2 m3:Int):DryP N (doR gs src s m1 m2 m3).2:=by
 unfold doR
 split
 ·unfold Qp
  rw[if_pos h.cl]
  split <;> exact h
 ·split
  ·unfold Qk
   rw[dry_el h.dry]
   split <;> exact h
  ·split
   ·unfold Jn
    rw[dry_el h.dry]
    split <;> exact h
   ·split
    ·unfold Xn
     split
     ·exact h
     ·split
      ·exact h
      ·rename_i h1 h2;exact⟨h.len,h.cl,h.dry,h.fa,h.em,h.fu,by have:=h.ti0;dsimp only;omega,by dsimp only;omega,h.it0,h.it1⟩
    ·split
     ·unfold Kr
      rw[if_pos h.cl];exact h
     ·split
      ·unfold Kz
       rw[if_pos ⟨h.cl,h.dry⟩];exact h
      ·exact h
theorem ScI.move{gs:List PNode}{src:List Int}{n:Nat}{s:PP}(hG:GoodE gs)(h:ScI gs n s)(m1 m2 m3:Int):ScI gs (n+1) (doR gs src s m1 m2 m3).2 :=
 ⟨h.inv.move hG h.len m1 m2 m3,h.bnd.imp (fun h=>h.move hG.edg m1 m2 m3) fun h=>h.move m1 m2 m3⟩
theorem ScI.zero{gs:List PNode}(hG:GoodE gs):ScI gs 0 (pp0 gs.length):=⟨pp0_inv hG,.inl (pp0_bnd gs.length)⟩
theorem bxs_dry{f:Nat→Int×Int×Int→Int}{bx:List (List (Int×Int×Int))}(h:Zs bx=0):Vg f bx=0:=by
 have h1:Vg f bx=Zt (fun _:Nat=>(0:Int)) (List.range bx.length):=by
  unfold Vg
  exact Kj fun k _=>by rw[dry_el h k];rfl
 rw[h1,Wu]
theorem ScI.run{gs:List PNode}{n:Nat}{s:PP}(hG:GoodE gs)(hw:Ue gs≤400)(h:ScI gs n s)(hn:n≤300):RunI gs 40000 9000 { s with cl:=true }:=by
 have hmany:=hG.edg.many
 rcases h.bnd with hB|hD
 ·have b1:=hB.tot;have b2:=hB.em;refine⟨⟨n,hB.len,hB.tot,hB.em,hB.fu,hB.ti0,hB.ti1,hB.it0,hB.it1,hB.tr⟩,⟨h.inv.cap,h.inv.val⟩,?_,fun _=>by show s.fa.length≤_;omega,by show s.fa.length≤_;omega⟩;have h1:=Jr (f:=fun k=>Zt (fun _=>wdP gs (Zv gs) k) (el s.bx k)) (c:=3200) (l:=List.range s.bx.length) fun k hk=>by
   have hk2:=List.mem_range.1 hk;have hc:=h.inv.cap k (by have:=hB.len;omega);have hc2:=(hG.cap k (by have:=hB.len;omega)).2;have h3:=wdP_le (gs:=gs) (k:=k) (by have:=hB.len;omega);have h4:=Jr (f:=fun _:Int×Int×Int=>wdP gs (Zv gs) k) (c:=400) (l:=el s.bx k) fun _ _=>by omega
   show Zt (fun _=>wdP gs (Zv gs) k) (el s.bx k)≤_
   omega
  rw[List.length_range]at h1;have hl:=hB.len;have h5:Vg (fun k _=>wdP gs (Zv gs) k) s.bx≤3200*(s.bx.length:Int):=h1
  show(s.em.length:Int)+Vg (fun k _=>wdP gs (Zv gs) k) s.bx≤40000
  omega
 ·have b1:=hD.fa;have b2:=hD.em;have b3:=hD.it1;have b4:=hD.dry;refine⟨⟨20000,hD.len,by show Zs s.bx+s.fa.length≤_;omega,by show s.em.length≤_;omega,hD.fu,hD.ti0,hD.ti1,hD.it0,by show s.it≤_;omega,hD.tr⟩,⟨h.inv.cap,h.inv.val⟩,?_,fun hne=>absurd b4 hne,by show s.fa.length≤_;omega⟩
  show(s.em.length:Int)+Vg (fun k _=>wdP gs (Zv gs) k) s.bx≤40000
  rw[bxs_dry b4];omega
theorem stepR_it(gs:List PNode)(s:PP)(m:Int):(Qk gs s m).2.it=s.it∧(s.cl=true→(Qk gs s m).2.cl=true):=by
 by_cases h0:(Qk gs s m).1=0
 ·obtain⟨k,t1,t2,t3,r,rfl,_,_,hc⟩:=Ho h0
  rcases hc with hc|⟨_,hc⟩
  ·rw[hc]
   unfold Kw
   rw[failT_it];refine⟨by split <;> rfl,fun h=>?_⟩
   unfold failT
   split <;> split <;> first|rfl|exact h
  ·rw[hc];obtain⟨_,_,_,h4,h5⟩:=Wd gs k t1 (Ky gs k t2).1 { s with bx:=s.bx.set k r };exact⟨h4,fun h=>by rw[h5];exact h⟩
 ·rw[Ln h0];exact⟨rfl,id⟩
theorem itS_it(gs:List PNode)(s:PP):∀n,(itS gs n s).it=s.it∧(s.cl=true→(itS gs n s).cl=true)
 |0=>⟨rfl,id⟩
 |n+1=>by
  have ih:=itS_it gs s n;rw[itS]
  by_cases hl:(Ko gs (Zv gs).reverse (itS gs n s)).1=true
  ·obtain⟨x,_,_,e⟩:=Yc hl;have:=stepR_it gs (itS gs n s) x;rw[e];exact⟨this.1.trans ih.1,fun h=>this.2 (ih.2 h)⟩
  ·rw[Lq hl];exact ih
theorem ScI.ran{gs:List PNode}{n:Nat}{s:PP}{K:Nat}(hG:GoodE gs)(hR:Ordd gs (Zv gs))(hw:Ue gs≤400)(h:ScI gs n s)(hn:n≤300)(hK:Halts gs { s with cl:=true } K):ScI gs n (itS gs K { s with cl:=true }):=by
 have hr:=(h.run hG hw hn).it hG hR K;have hi:=itS_it gs { s with cl:=true } K;have hst:=hK.stop;have hw:=h.raw hn;have h300:s.it≤300:=by
  rcases h.bnd with hB|hD
  ·have:=hB.it1;omega
  ·exact hD.it1
 revert hr hi hst
 generalize itS gs K { s with cl:=true }=s2
 intro hr hi hst;have he:=hr.em;rw[bxs_dry hst]at he;have hf:=hr.fa2;obtain⟨m,hm⟩:=hr.bnd;exact⟨hr.inv,.inr ⟨hr.len,hi.2 rfl,hst,by omega,by omega,hm.fu,hm.ti0,hm.ti1,hm.it0,by have:=hi.1;dsimp only at this;omega⟩⟩
noncomputable def Rf(gs:List PNode)(s:PP):Nat:=open Classical in if h:∃K,K≤1000000000000000000∧Halts gs { s with cl:=true } K then h.choose else 0
theorem ScI.halt{gs:List PNode}{n:Nat}{s:PP}(hG:GoodE gs)(hR:Ordd gs (Zv gs))(hw:Ue gs≤400)(h:ScI gs n s)(hn:n≤300):Rf gs s≤1000000000000000000∧Halts gs { s with cl:=true } (Rf gs s):=by
 have hI:=h.run hG hw hn;have hex:∃K,K≤1000000000000000000∧Halts gs { s with cl:=true } K:=by
  obtain⟨K,hK,hH⟩:=halts hG hR (400*31 ^ 10) _ hI (by have:=phi_most hG hI hR;omega);exact⟨K,by omega,hH⟩
 unfold Rf
 rw[dif_pos hex];exact hex.choose_spec
def Qy(s:ByteArray):List ByteArray×Bool :=
 if s.size≤3000∧(Zw s 10).length≤201∧el (Zw s 10) ((Zw s 10).length-1)=⟨#[]⟩then((Zw s 10).take ((Zw s 10).length-1),true)else([],false)
theorem Fs(s:ByteArray):(Qy s).1.length≤200:=by
 unfold Qy
 split
 ·rename_i h;rw[List.length_take];omega
 ·exact Nat.zero_le _
theorem texts_take{n:Nat}{W:World}{ao:Option Addr}{ws:List ByteArray}(h:kS.In n W ao ws)(k:Nat):kS.In n W ao (ws.take k):=by
 by_cases h0:0<(ws.take k).length
 ·have h1:0<ws.length:=by rw[List.length_take]at h0;omega
  obtain⟨b,off,rfl,hb,hc⟩:=Ks h h1;refine texts_mk hb fun j hj=>?_
  rw[List.length_take]at hj;rw[hc j (by omega)]
  simp[el,show j<k by omega]
 ·exact .inl (List.length_eq_zero_iff.1 (by omega))
theorem linesOf_is(s:ByteArray)(w:World)(hs:s.size≤1048576) :
  Calls prog 82 #[.string s] w fun e w'=>(∃ao c,e=.returned (.tuple #[.slice ao (Qy s).1.length c,.bool (Qy s).2])∧kS.In w'.1.size w' ao (Qy s).1)∧Below w.1.size w w':=by
 by_cases h3:s.size≤3000
 case neg =>
  have hR:Qy s=([],false):=if_neg (fun h=>h3 h.1);rw[hR];have hd:decide ((3000:Int)<(s.size:Int))=true:=by simp;omega
  clear hR h3;go_enter func82,ntmps82;go_wp2;refine bodyPost_ret (v:=.tuple #[.slice none 0 0,.bool false]) (by simp[results,results82,go_sem]) rfl ?_;exact⟨⟨none,0,rfl,.inl rfl⟩,Below.refl _ _⟩
 have hd:decide ((3000:Int)<(s.size:Int))=false:=by simp;omega
 obtain⟨⟨ls,y⟩,hR⟩:∃R,Qy s=R:=⟨_,rfl⟩;have HR:=Zd hR;rw[hR];dsimp only;have HP:=Zd (Xj s 10 w hs (by omega));have hpos:=Jd s 10;have hlen:=Qr s 10;have e10:((10:UInt8).toNat:Int)=10:=rfl;have e11:((10:Nat):Int)=10:=rfl;rw[e10]at hpos;rw[e11]at HP;have HU:Zi ((ls,y)=if(Zw s 10).length≤201∧el (Zw s 10) ((Zw s 10).length-1)=⟨#[]⟩then((Zw s 10).take ((Zw s 10).length-1),true)else([],false)):=by
  rw[Zi,←hR,Qy]
  by_cases hc:(Zw s 10).length≤201∧el (Zw s 10) ((Zw s 10).length-1)=⟨#[]⟩
  ·rw[if_pos ⟨h3,hc⟩,if_pos hc]
  ·rw[if_neg (fun h=>hc h.2),if_neg hc]
 generalize Zw s 10=ps at HP hpos hlen HU
 obtain⟨m,hm⟩:∃m,ps.length=m+1:=⟨ps.length-1,by omega⟩;have HM:=Zd hm;clear hR HR e10 e11 h3;go_enter func82,ntmps82;go_wp2_with fail;refine HP.o.mono ?_;rintro e w1 ⟨⟨go,qc,rfl,hno,hF⟩,hb1⟩;obtain⟨g,rfl,hg1,hg2,hg3,_⟩:=hF.at hpos;have hcap:=hF.cap;have HI:=Zd hF.in;have hB1:Below w.1.size w w1:=hb1;obtain⟨b,off,eb,hbb,hcc⟩:=Ks HI.o (show m<ps.length by omega);obtain⟨rfl,rfl⟩:g=b∧0=off:=by simp at eb;exact eb
 have cm:=hcc m (by omega);rw[Nat.zero_add]at cm;have hw1:IntKind.i64.wrap ((ps.length:Int)-1)=(m:Int):=by rw[IntKind.wrap_i64] <;> omega
 have hmi:(m:Int)<(ps.length:Int):=by omega
 have hme:ps.length-1=m:=by omega
 have HU2:=HU.o;rw[hme]at HU2;have HU2:=Zd HU2;clear hF HP hb1 hno hcc hme HU hm eb
 by_cases h200:200<m
 ·have hd2:decide ((200:Int)<(m:Int))=true:=by simp;omega
  have hE:=HU2.o;rw[if_neg (fun h=>by have:=HM.o;omega)]at hE;obtain⟨rfl,rfl⟩:ls=[]∧y=false:=by simpa using hE
  clear hE;go_wp2;refine bodyPost_ret (v:=.tuple #[.slice none 0 0,.bool false]) (by simp[results,results82,go_sem]) rfl ?_;exact⟨⟨none,0,rfl,.inl rfl⟩,hB1⟩
 ·have hd2:decide ((200:Int)<(m:Int))=false:=by simp;omega
  by_cases hl:el ps m=⟨#[]⟩
  ·have hE:=HU2.o;rw[if_pos ⟨by have:=HM.o;omega,hl⟩]at hE;obtain⟨rfl,rfl⟩:ls=ps.take m∧y=true:=by simpa using hE
   rw[hl]at cm;have hls:(ps.take m).length=m:=by rw[List.length_take];omega
   have HLS:=Zd hls;have HIT:=Zd (texts_take HI.o m);have hqc:(m:Int)≤(qc:Int):=by omega
   clear hE hl hls;go_wp2;refine bodyPost_ret (v:=.tuple #[.slice (some ⟨g,0,none⟩) m qc,.bool true]) (by simp[results,results82,go_sem]) rfl ?_;exact⟨⟨_,qc,by rw[HLS.o],HIT.o⟩,hB1⟩
  ·have hE:=HU2.o;rw[if_neg (fun h=>hl h.2)]at hE;obtain⟨rfl,rfl⟩:ls=[]∧y=false:=by simpa using hE
   generalize el ps m=x at cm hl
   have hm1:x.toList≠[]:=fun e=>hl (Ze (by rw[e,Lib.toList_data]))
   have hm2:(x.toList != [])=true:=by simpa using hm1
   have hm3:(x.toList==[])=false:=by simpa using hm1
   clear hE hl hm1;go_wp2;refine bodyPost_ret (v:=.tuple #[.slice none 0 0,.bool false]) (by simp[results,results82,go_sem]) rfl ?_;exact⟨⟨none,0,rfl,.inl rfl⟩,hB1⟩
end Go.Proofs.YtdacedbfnlkghaaGreatDoor