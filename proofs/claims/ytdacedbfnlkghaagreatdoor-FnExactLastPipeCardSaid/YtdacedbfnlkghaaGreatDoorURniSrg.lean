/- Stepping the last that can: the program. Running out: the program. Running out, and what it keeps: the program. How far the numbers in a script's pipe go, plainly. No conditions but those written. -/
import Derived.Test.YtdacedbfnlkghaaGreatDoorUEiMo
namespace Go.Proofs.YtdacedbfnlkghaaGreatDoor
set_option maxHeartbeats 8000000
set_option maxRecDepth 100000
open Go.RowKit Go.Proofs.Tryz
section
open Go.RowKit Go.Shelf
theorem Cq{gs:List PNode}{s:PP}:∀{l:List Int},(∀i,i<l.length→(Qk gs s (el l i)).1≠0)→Ko gs l s=(false,s)
 | [],_=>rfl
 |x::r,h=>by
  have h0:=h 0 (by simp);rw[Kd]at h0;rw[Ko,if_neg h0];exact Cq fun i hi=>by have:=h (i+1) (by simp;omega);rwa [Vl]at this
theorem lastS_at{gs:List PNode}{s:PP}:∀{l:List Int}{k:Nat},k<l.length→(∀i,i<k→(Qk gs s (el l i)).1≠0)→(Qk gs s (el l k)).1=0→Ko gs l s=(true,(Qk gs s (el l k)).2)
 | [],_,h,_,_=>by simp at h
 |x::r,0,_,_,h0=>by rw[Kd]at h0 ⊢;rw[Ko,if_pos h0]
 |x::r,k+1,hk,h,h0=>by
  have h1:=h 0 (by omega);rw[Kd]at h1;rw[Vl]at h0 ⊢;rw[Ko,if_neg h1];exact lastS_at (by simpa using hk) (fun i hi=>by have:=h (i+1) (by omega);rwa [Vl]at this) h0
theorem Gt{α:Type}{K:Kind α}{lo:Nat}{W:World}{v:Value}{xs:List α}(h:K.Own lo W v xs){b:Nat}(hb:v.ownBlock=some b):∃o:Obj,W.heap[b]? = some o∧o.isCells=true:=by
 rcases h.2 with⟨e,_⟩|⟨g,cap,cur,e,hg,hh,_⟩
 ·subst e;simp[Value.ownBlock]at hb
 ·subst e;simp[Value.ownBlock]at hb;subst hb;exact⟨_,hh,rfl⟩
theorem Flow.cells{lo:Nat}{W:World}{p bb:Nat}{gv sv:Value}{xs:List Value}{ev fv uv:Value}{s:PP}(h:Flow lo W p bb gv sv xs ev fv uv s){b:Nat}(hb:FO p bb xs ev fv uv b):∃o:Obj,W.heap[b]? = some o∧o.isCells=true:=by
 rcases hb with rfl|rfl|⟨j,hj,hb⟩|hb|hb|hb
 ·exact cells_of_cell (h.box.c 0 rfl)
 ·rcases h.hnd.head.2 with⟨e,_⟩|⟨g,cap,cur,e,hg,hh,_⟩
  ·cases e
  ·obtain⟨rfl,_⟩:_=g∧_:=by simp at e;exact e
   exact⟨_,hh,rfl⟩
 ·exact Gt (h.hnd.row j (by rw[←h.hnd.len];exact hj)) hb
 ·exact Gt h.emo hb
 ·exact Gt h.fao hb
 ·exact Gt h.fuo hb
structure FY(lo p:Nat)(gv sv:Value)(O:Nat→Prop)(W W':World)(bb:Nat)(xs:List Value)(ev fv uv:Value)(s:PP):Prop where
 flow:Flow lo W' p bb gv sv xs ev fv uv s
 old:∀b,FO p bb xs ev fv uv b→O b∨W.1.size≤b
 low:Below lo W W'
 kept:∀b,b<W.1.size→¬O b→W'.heap[b]? = W.heap[b]?
theorem FY.step{lo p:Nat}{gv sv:Value}{O:Nat→Prop}{W W':World}{bb:Nat}{xs:List Value}{ev fv uv:Value}{s:PP}(h:FY lo p gv sv O W W' bb xs ev fv uv s):FStep lo p gv sv O W W' s :=
 ⟨_,⟨bb,xs,ev,fv,uv,h.flow,fun _ hb=>hb⟩,h.old,h.low,h.kept⟩
theorem FStep.fy{lo p:Nat}{gv sv:Value}{O:Nat→Prop}{W W':World}{s:PP}(h:FStep lo p gv sv O W W' s):∃bb xs ev fv uv,FY lo p gv sv O W W' bb xs ev fv uv s:=by
 obtain⟨O',⟨bb,xs,ev,fv,uv,F,hF⟩,hs,hb,hk⟩:=h;exact⟨bb,xs,ev,fv,uv,F,fun b h1=>hs b (hF b h1),hb,hk⟩
theorem FY.refl{lo p:Nat}{gv sv:Value}{W:World}{bb:Nat}{xs:List Value}{ev fv uv:Value}{s:PP}(h:Flow lo W p bb gv sv xs ev fv uv s):FY lo p gv sv (FO p bb xs ev fv uv) W W bb xs ev fv uv s :=
 ⟨h,fun _ hb=>.inl hb,Below.refl _ _,fun _ _ _=>rfl⟩
theorem Flow.lo_le{lo p:Nat}{gv sv:Value}{W:World}{bb:Nat}{xs:List Value}{ev fv uv:Value}{s:PP}(h:Flow lo W p bb gv sv xs ev fv uv s):lo≤W.1.size:=Nat.le_of_lt (Nat.lt_of_le_of_lt h.lop h.box.size)
theorem FY.later{lo p:Nat}{gv sv:Value}{O:Nat→Prop}{W W1 V:World}{bb:Nat}{xs:List Value}{ev fv uv:Value}{s:PP}(h:FY lo p gv sv O W W1 bb xs ev fv uv s)(hb:Below W1.1.size W1 V):FY lo p gv sv O W V bb xs ev fv uv s :=
 ⟨h.flow.later hb,h.old,h.low.trans (hb.mono h.flow.lo_le),fun b h1 h2=>(hb.block b (Nat.lt_of_lt_of_le h1 h.low.size)).trans (h.kept b h1 h2)⟩
theorem FY.trans{lo p:Nat}{gv sv:Value}{O:Nat→Prop}{W W1 W2:World}{bb bb2:Nat}{xs xs2:List Value}{ev fv uv ev2 fv2 uv2:Value}{s s2:PP}(h:FY lo p gv sv O W W1 bb xs ev fv uv s)(h2:FY lo p gv sv (FO p bb xs ev fv uv) W1 W2 bb2 xs2 ev2 fv2 uv2 s2):FY lo p gv sv O W W2 bb2 xs2 ev2 fv2 uv2 s2:=by
 have hz:=h.low.size;refine⟨h2.flow,fun b h1=>?_,h.low.trans h2.low,fun b h1 h3=>?_⟩
 ·rcases h2.old b h1 with h4|h4
  ·exact h.old b h4
  ·exact .inr (by omega)
 ·have hn:¬FO p bb xs ev fv uv b:=fun h4=>by
   rcases h.old b h4 with h5|h5
   ·exact h3 h5
   ·omega
  exact(h2.kept b (by omega) hn).trans (h.kept b h1 h3)
theorem FY.others{lo p:Nat}{gv sv:Value}{W W':World}{bb bb2:Nat}{xs xs2:List Value}{ev fv uv ev2 fv2 uv2:Value}{s s2:PP}(hF:Flow lo W p bb gv sv xs ev fv uv s)(h:FY lo p gv sv (FO p bb xs ev fv uv) W W' bb2 xs2 ev2 fv2 uv2 s2):KeepsOthers W W' :=
 ⟨h.low.size,fun k o h1 ho=>(h.kept k (Array.getElem?_eq_some_iff.1 h1).1 (fun hO=>by
  obtain⟨o2,h2,hc⟩:=hF.cells hO;rw[h1]at h2;cases h2;rw[ho]at hc;cases hc)).trans h1⟩
theorem FY.grown{lo p S:Nat}{gv sv:Value}{O:Nat→Prop}{W W1 V:World}{bb:Nat}{xs:List Value}{ev fv uv:Value}{s:PP}{row:Option Nat}(h:FY lo p gv sv O W W1 bb xs ev fv uv s)(hS:W.1.size≤S)(hl:lo≤S)(hg:W1.grownBy V row)(hr:∀r,row=some r→S≤r∧∃o:Obj,W1.heap[r]? = some o∧o.isCells=false):FY lo p gv sv O W V bb xs ev fv uv s:=by
 have hsz:=h.low.size;refine⟨h.flow.keep hg.size fun b hb=>by obtain⟨o,ho,hc⟩:=h.flow.cells hb;exact grownBy_keeps_cells hg (fun r e=>(hr r e).2) ho hc,h.old,?_,fun b h1 h2=>?_⟩
 ·exact h.low.grown hg h.flow.lo_le fun k e=>by have:=(hr k e).1;omega
 ·exact(hg.block b (by omega) fun e=>by have:=(hr b e.symm).1;omega).trans (h.kept b h1 h2)
structure LInv(gs:List PNode)(R:List Int)(lo p:Nat)(gv sv:Value)(O:Nat→Prop)(W0:World)(s:PP)(B b Bs S:Nat)(pre:List Nat)(W:World):Prop where
 fy:∃bb xs ev fv uv,FY lo p gv sv O W0 W bb xs ev fv uv s∧∀x,(x=B∨x=B+1∨x=b∨x=Bs)→¬FO p bb xs ev fv uv x
 box:Bx W B [.pointer (some ⟨p,0,none⟩)]
 res:Bx W (B+1) [.bool false]
 no:∀i∈pre,(Qk gs s (el R.reverse i)).1≠0
 siz:S≤W.1.size
structure LRet(gs:List PNode)(R:List Int)(lo p:Nat)(gv sv:Value)(O:Nat→Prop)(W0:World)(s:PP)(B:Nat)(c:Code)(pre:List Nat)(W:World):Prop where
 ret:c=.ret
 spot:∃pre0 x,pre=pre0++[x]∧(∀i∈pre0,(Qk gs s (el R.reverse i)).1≠0)∧(Qk gs s (el R.reverse x)).1=0∧∃bb xs ev fv uv,FY lo p gv sv O W0 W bb xs ev fv uv (Qk gs s (el R.reverse x)).2
 res:Bx W (B+1) [.bool true]
theorem LInv.kept{gs:List PNode}{R:List Int}{lo p:Nat}{gv sv:Value}{O:Nat→Prop}{W0:World}{s:PP}{B b Bs S S2:Nat}{pre:List Nat}{W W':World}{row:Option Nat}(h:LInv gs R lo p gv sv O W0 s B b Bs S pre W)(h1:W0.1.size≤S2)(h2:lo≤S2)(hg:W.grownBy W' row)(hr:∀r,row=some r→S2≤r∧∃o:Obj,W.heap[r]? = some o∧o.isCells=false):LInv gs R lo p gv sv O W0 s B b Bs S pre W':=by
 obtain⟨bb,xs,ev,fv,uv,hf,hn⟩:=h.fy;exact⟨⟨bb,xs,ev,fv,uv,hf.grown h1 h2 hg hr,hn⟩,h.box.kept hg (fun r e=>(hr r e).2),h.res.kept hg (fun r e=>(hr r e).2),h.no,Nat.le_trans h.siz hg.size⟩
theorem LRet.kept{gs:List PNode}{R:List Int}{lo p:Nat}{gv sv:Value}{O:Nat→Prop}{W0:World}{s:PP}{B S2:Nat}{c:Code}{pre:List Nat}{W W':World}{row:Option Nat}(h:LRet gs R lo p gv sv O W0 s B c pre W)(h1:W0.1.size≤S2)(h2:lo≤S2)(hg:W.grownBy W' row)(hr:∀r,row=some r→S2≤r∧∃o:Obj,W.heap[r]? = some o∧o.isCells=false):LRet gs R lo p gv sv O W0 s B c pre W':=by
 obtain⟨pre0,x,e,hno,h0,bb,xs,ev,fv,uv,hf⟩:=h.spot;exact⟨h.ret,⟨pre0,x,e,hno,h0,bb,xs,ev,fv,uv,hf.grown h1 h2 hg hr⟩,h.res.kept hg (fun r e=>(hr r e).2)⟩
theorem FY.setNew{lo p:Nat}{gv sv:Value}{O:Nat→Prop}{W W1:World}{bb:Nat}{xs:List Value}{ev fv uv:Value}{s:PP}(h:FY lo p gv sv O W W1 bb xs ev fv uv s)(hlo:lo≤W.1.size){a:Addr}(ha:¬FO p bb xs ev fv uv a.block)(h2:W.1.size≤a.block)(u:Value):FY lo p gv sv O W (W1.setCell a u) bb xs ev fv uv s :=
 ⟨h.flow.keep (KeepsOthers.setCell _ _ _).size fun b hb=>Below.heap_setCell _ _ _ _ (fun e=>ha (by rw[←e];exact hb)),h.old,h.low.setCell (p:=a) (by omega) u,fun b h3 h4=>(Below.heap_setCell _ _ _ _ (by omega)).trans (h.kept b h3 h4)⟩
attribute [local go_sem] Oper.semAt_some
theorem stepLast_any(lo:Nat)(W:World)(p bb gb goff gc:Nat)(ts:List LNode)(sv:Value)(xs:List Value)(ev fv uv:Value)(s:PP)(go:Option Addr)(qc:Nat)(R:List Int)(h:Flow lo W p bb (.slice (some ⟨gb,goff,none⟩) ts.length gc) sv xs ev fv uv s)(hz:DIn Ja lo W (some ⟨gb,goff,none⟩) ts)(h1:0<ts.length)(hG:GoodE (ts.map Zz))(hR:Ordd (ts.map Zz) R)(hR0:Ordd (ts.map Zz) (Zv (ts.map Zz)))(hI:RunI (ts.map Zz) 40000 9000 s)(hO:kI.Own lo W (.slice go R.length qc) R)(hA:∀b,(Value.slice go R.length qc).ownBlock=some b→¬FO p bb xs ev fv uv b) :
  Calls prog 168 #[.pointer (some ⟨p,0,none⟩),.slice go R.length qc] W fun e W'=>e=.returned (.bool (Ko (ts.map Zz) R.reverse s).1)∧FStep lo p (.slice (some ⟨gb,goff,none⟩) ts.length gc) sv (FO p bb xs ev fv uv) W W' (Ko (ts.map Zz) R.reverse s).2:=by
 have hmany:ts.length≤10:=by have:=hG.edg.many;rw[List.length_map]at this;exact this
 have hRl:R.length=ts.length:=by rw[hR.len,Zb]
 have hlo:lo≤W.1.size:=h.lo_le;have hp:=h.box.size;obtain⟨n0,hbn⟩:=hI.bnd;have hlen:=hI.len;rw[Zb]at hlen;have htc:=Li hG hI.inv hI.len;have hem:=hI.em;have hfa:=hI.fa2;have hwn:0≤Vg (fun k _=>wdP (ts.map Zz) (Zv (ts.map Zz)) k) s.bx:=bxsF_nn fun i t hi _=>by
  have hORD:Ordd (ts.map Zz) (Zv (ts.map Zz)):=hR0;have:=Yi hORD hG.edg hG.st (show i<(ts.map Zz).length by rw[Zb];omega);omega
 have HST:Zi (∀(V:World)(bb:Nat)(xs:List Value)(ev fv uv:Value)(m:Int),Flow lo V p bb (.slice (some ⟨gb,goff,none⟩) ts.length gc) sv xs ev fv uv s→Below lo W V→Calls prog 208 #[.pointer (some ⟨p,0,none⟩),.agg #[.int .i64 2,.int .i64 m,.int .i64 0]] V fun e W'=>e=.returned (.int .i64 (Qk (ts.map Zz) s m).1)∧FStep lo p (.slice (some ⟨gb,goff,none⟩) ts.length gc) sv (FO p bb xs ev fv uv) V W' (Qk (ts.map Zz) s m).2):=fun V bb xs ev fv uv m hF hb =>
  step_any lo V p bb gb goff gc ts sv xs ev fv uv s 2 m 0 hF hlen (hz.below Zf hb) hG.edg (fun j hj=>by have:=hG.cap j (by rw[Zb];exact hj);omega) (by omega) (by omega) (by have:=hbn.fu;omega) hbn.ti0 hbn.ti1 (fun k t1 t2 t3 r e=>by have:=hI.tr k (t1,t2,t3) (by rw[e];simp);dsimp only at this;omega)
 have HH:=Zd h;have HO:=Zd hO;have HA:=Zd hA;have hRr:∀x∈R.reverse,∃j:Nat,j<(ts.map Zz).length∧x=(j:Int):=fun x hx=>hR.rng x (List.mem_reverse.1 hx)
 have HRR:=Zd hRr;obtain⟨gs,hgs⟩:=nmd (ts.map Zz);rw[←hgs]at HST HRR ⊢;have hgl:gs.length=ts.length:=by rw[hgs,Zb]
 clear hRr hgs hwn hfa hem htc hlen hbn hI hR hG hz hO hA;refine(callsIn_wide (n:=6)).1 ?_;have hro:Fence.wide.round=none:=rfl;refine callsIn_of_wp_marks func168 rfl trivial ?_ hro;simp only[ntmps168,List.size_toArray,List.length_cons,List.length_nil,Nat.reduceAdd,Nat.reduceSub,Array.replicate_succ,Array.replicate_zero,List.push_toArray,List.append_toArray,List.nil_append,List.cons_append];have HRL:=Zd hRl;have hr1:0<R.length:=by omega
 have hr2:R.length≤10:=by omega
 clear hRl
 gi_wp2_with fail
 refine⟨trivial,?_⟩;refine(callsIn_wide.2 (Hc go R.length qc _)).mono ?_;rintro e w4 ⟨rfl,rfl⟩
 gi_wp2_with fail
 obtain⟨W4,hW4⟩:=nmd ((((W.alloc (.cells #[.pointer (some ⟨p,0,none⟩)] 90)).alloc (.cells #[.bool false] 4)).alloc (.cells #[.slice go R.length qc] 25)));rw[←hW4];have HB4:Zi (Below W.1.size W W4):=by rw[Zi,hW4];exact(Qf _ _ _).trans ((Zk _ _).mono (by simp;omega))
 have S4:W4.1.size=W.1.size+3:=by rw[hW4];simp
 have C4:W4.cell? ⟨W.1.size+2,0,none⟩=some (.slice go R.length qc):=by
  have:=(Bx.new (w:=(W.alloc (.cells #[.pointer (some ⟨p,0,none⟩)] 90)).alloc (.cells #[.bool false] 4)) [.slice go R.length qc] 25 rfl).c 0 rfl;rw[hW4];simpa using this
 have FR4:Bx W4 (W.1.size+1) [.bool false]:=by
  have:=Bx.new (w:=W.alloc (.cells #[.pointer (some ⟨p,0,none⟩)] 90)) [.bool false] 4 rfl;have h2:=this.later (Zk _ (.cells #[.slice go R.length qc] 25));rw[hW4];simpa using h2
 have FB4:Bx W4 W.1.size [.pointer (some ⟨p,0,none⟩)]:=by
  have:=Bx.new (w:=W) [.pointer (some ⟨p,0,none⟩)] 90 rfl;have h2:=this.later (Qf _ (.cells #[.bool false] 4) (.cells #[.slice go R.length qc] 25));rw[hW4];exact h2
 obtain⟨b,off,rfl,hbW,hcs⟩:∃b off,go=some ⟨b,off,none⟩∧b<W.1.size∧∀j,j<R.length→W.cell? ⟨b,off+j,none⟩=some (.int .i64 (el R j)):=by
  obtain⟨co,cc,e,_,hCI⟩:=HO.o.in;obtain⟨rfl,rfl⟩:go=co∧qc=cc:=by simp at e;exact e
  obtain⟨b,off,e2,hb,hc⟩:=Zo hCI hr1;exact⟨b,off,e2,hb,hc⟩
 have hbF:¬FO p bb xs ev fv uv b:=HA.o b rfl;have hbI:R=[]∨∃o2,(some (⟨b,off,none⟩:Addr))=some ⟨b,o2,none⟩∧b<W4.1.size∧∀j,j<R.length→W4.cell? ⟨b,o2+j,none⟩=some (.int .i64 (el R j)):=.inr ⟨off,rfl,by omega,fun j hj=>(HB4.o.cell (p:=⟨b,off+j,none⟩) hbW).trans (hcs j hj)⟩;have hinv0:LInv gs R lo p (.slice (some ⟨gb,goff,none⟩) ts.length gc) sv (FO p bb xs ev fv uv) W s W.1.size b (W.1.size+2) W4.1.size [] W4 :=
  ⟨⟨bb,xs,ev,fv,uv,(FY.refl HH.o).later HB4.o,fun x hx=>by
   rcases hx with rfl|rfl|rfl|rfl
   ·exact HH.o.far (Nat.le_refl _)
   ·exact HH.o.far (by omega)
   ·exact hbF
   ·exact HH.o.far (by omega)⟩,FB4,FR4,(fun i hi=>by cases hi),Nat.le_refl _⟩
 clear hW4 FR4 FB4 hcs;refine wpIn_rangeFunc_ownG hro (by omega) (gf:=220) (lb := #[.pointer (some ⟨W.1.size+2,0,none⟩)]) rfl trivial (enters_of func220 (by kernel_rfl) rfl)
  (Ct Fence.wide (6-1) trivial hro (by omega) (W.1.size+2) b (some ⟨b,off,none⟩) qc R (by omega) W4 (by omega) C4 hbI) Same2.trans (fun W' l o o' h1 h2 h3 h4=>⟨Us (by omega) W' l o o' h1 h2 h3 h4,Us (by omega) W' l o o' h1 h2 h3 h4⟩) (Below.refl _ _) (fun _=>rfl)
  (fun pre W'=>LInv gs R lo p (.slice (some ⟨gb,goff,none⟩) ts.length gc) sv (FO p bb xs ev fv uv) W s W.1.size b (W.1.size+2) W4.1.size pre W')
  (fun c pre W'=>LRet gs R lo p (.slice (some ⟨gb,goff,none⟩) ts.length gc) sv (FO p bb xs ev fv uv) W s W.1.size c pre W')
  (fun _ _ _ _ hs hg hr=>hs.kept (S2:=W4.1.size) (by omega) (by omega) hg hr)
  (fun _ _ _ _ _ hs hg hr=>hs.kept (S2:=W4.1.size) (by omega) (by omega) hg hr)
  hinv0
  (fun x=>{ tmps := #[.pointer (some ⟨p,0,none⟩),.slice (some ⟨b,off,none⟩) R.length qc,.pointer (some ⟨W.1.size,0,none⟩),undef,.pointer (some ⟨W.1.size+1,0,none⟩),undef,.int .i64 (el R.reverse x),.slice (some ⟨b,off,none⟩) R.length qc,.func (.func 220) #[] #[.pointer (some ⟨W.1.size+2,0,none⟩)],.int .i64 ((R.length:Int)-1-(x:Int)),.int .i64 (el R.reverse x),undef,undef,undef,undef,undef],defers:=[] }) ?assign ?body ?done ?stop
 case assign =>
  intro l x W K hK;simp only[bkA,tvI]
  gi_wp2
  exact hK
 case body =>
  rintro l pre x Wq hI hlen;have hmx:prog.follows .mixedOrders=true:=by kernel_rfl
  obtain⟨k,hk,ek⟩:=el_rng HRR.o (by omega) x;obtain⟨bb1,xs1,ev1,fv1,uv1,hfy,hno⟩:=hI.fy;have HFY:=Zd hfy;have HNO:=Zd hno;have g0:=hI.box.c 0 rfl;have r0:=hI.res.c 0 rfl;have rf:=hI.res.f 0 rfl;have hsz:=hI.siz;have HI:=Zd hI;have HSt:=Zd (fun V hb=>HST.o V bb1 xs1 ev1 fv1 uv1 (k:Int) (HFY.o.flow.later hb) (HFY.o.low.trans (hb.mono HFY.o.flow.lo_le)));rw[ek];have HEK:=Zd ek;clear ek hfy hno hI;obtain⟨cd,hcd⟩:=nmd ((Qk gs s (k:Int)).1);rw[←hcd]at HSt;have HSD:=Zd hcd;clear hcd
  by_cases h0:cd=0
  ·subst h0
   gi_wp2_with fail
   refine⟨trivial,?_⟩;refine(CallsIn.inRound l (callsIn_wide.2 (HSt.o Wq (Below.refl _ _)))).mono ?_;rintro e w5 ⟨rfl,hs5⟩;obtain⟨bb5,xs5,ev5,fv5,uv5,F5⟩:=hs5.fy;have KO:=Zd (FY.others HFY.o.flow F5);have HT:=Zd (HFY.o.trans F5);have hkb:∀y,(y=W.1.size∨y=W.1.size+1∨y=b∨y=W.1.size+2)→w5.heap[y]? = Wq.heap[y]? := fun y hy=>F5.kept y (by omega) (HNO.o y hy)
   have hnf:∀y,(y=W.1.size∨y=W.1.size+1∨y=b∨y=W.1.size+2)→¬FO p bb5 xs5 ev5 fv5 uv5 y:=fun y hy hO=>by
    rcases F5.old y hO with h4|h4
    ·exact HNO.o y hy h4
    ·omega
   have HKB:=Zd hkb;have HNF:=Zd hnf;have B5:=Zd (HI.o.box.keep F5.low.size (hkb _ (.inl rfl)));have R5:=Zd (HI.o.res.keep F5.low.size (hkb _ (.inr (.inl rfl))));obtain⟨r5,rf5,_⟩:=R5.o.x1;have hs5z:=F5.low.size;clear hs5 F5 hkb hnf g0 r0 rf
   gi_wp2
   refine⟨(KO.o.trans (KeepsOthers.setCell _ _ _)).from _,rfl,⟨pre,x,rfl,HI.o.no,by rw[HEK.o];exact HSD.o.symm,bb5,xs5,ev5,fv5,uv5,by rw[HEK.o];exact HT.o.setNew hlo (HNF.o _ (.inr (.inl rfl))) (by simp only;omega) _⟩,R5.o.set 0 _⟩
  ·have hd0:(cd==0)=false:=by simpa using h0
   have hsame:=Ln (gs:=gs) (s:=s) (m:=(k:Int)) (by rw[←HSD.o];exact h0);have HSM:=Zd hsame;clear h0 hsame
   gi_wp2_with fail
   refine⟨trivial,?_⟩;refine(CallsIn.inRound l (callsIn_wide.2 (HSt.o Wq (Below.refl _ _)))).mono ?_;rintro e w5 ⟨rfl,hs5⟩;obtain⟨bb5,xs5,ev5,fv5,uv5,F5⟩:=hs5.fy;have KO:=Zd (FY.others HFY.o.flow F5);have HT:=Zd (HFY.o.trans F5);have hkb:∀y,(y=W.1.size∨y=W.1.size+1∨y=b∨y=W.1.size+2)→w5.heap[y]? = Wq.heap[y]? := fun y hy=>F5.kept y (by omega) (HNO.o y hy)
   have hnf:∀y,(y=W.1.size∨y=W.1.size+1∨y=b∨y=W.1.size+2)→¬FO p bb5 xs5 ev5 fv5 uv5 y:=fun y hy hO=>by
    rcases F5.old y hO with h4|h4
    ·exact HNO.o y hy h4
    ·omega
   have HKB:=Zd hkb;have HNF:=Zd hnf;have B5:=Zd (HI.o.box.keep F5.low.size (hkb _ (.inl rfl)));have R5:=Zd (HI.o.res.keep F5.low.size (hkb _ (.inr (.inl rfl))));obtain⟨r5,rf5,_⟩:=R5.o.x1;have hs5z:=F5.low.size;clear hs5 F5 hkb hnf g0 r0 rf;rw[HSM.o]at HT
   gi_wp2
   refine⟨KO.o.from _,⟨HKB.o _ (.inr (.inr (.inl rfl))),HKB.o _ (.inr (.inr (.inr rfl)))⟩,⟨bb5,xs5,ev5,fv5,uv5,HT.o,HNF.o⟩,B5.o,R5.o,fun i hi=>?_,by omega⟩
   rcases List.mem_append.1 hi with h1|h1
   ·exact HI.o.no i h1
   ·rw[List.mem_singleton.1 h1,HEK.o,←HSD.o];intro e;rw[e]at hd0;cases hd0
 case done =>
  rintro D ys W5 hD rfl hI hK;have r0:=hI.res.c 0 rfl;have rf:=hI.res.f 0 rfl;have HI:=Zd hI;have HK:=Zd hK;clear hI hK
  gi_wp2
  have hK2:(W5.setCell ⟨W.1.size+1,0,none⟩ (.bool false)).heap[D]? = some (.deferred (some [])):=(Below.heap_setCell _ _ _ _ (by simp only;omega)).trans HK.o;refine⟨by simp,.inl ⟨_,_,rfl,run_takeDeferred hK2,?_⟩⟩;have hg:=grownBy_putObj' (W5.setCell ⟨W.1.size+1,0,none⟩ (.bool false)) D (.deferred none);have hrow:∀r,some D=some r→W4.1.size≤r∧∃o:Obj,(W5.setCell ⟨W.1.size+1,0,none⟩ (.bool false)).heap[r]? = some o∧o.isCells=false:=fun r e=>by cases e;exact⟨hD,_,hK2,rfl⟩
  obtain⟨bb5,xs5,ev5,fv5,uv5,hf,hn⟩:=HI.o.fy;have HFin:=Zd ((hf.setNew hlo (hn _ (.inr (.inl rfl))) (by simp only;omega) (.bool false)).grown (S:=W4.1.size) (by omega) (by omega) hg hrow);have hres:=((HI.o.res.set 0 (.bool false)).kept hg (fun r e=>(hrow r e).2)).c 0 rfl;have HL:=Zd (Cq (gs:=gs) (s:=s) (l:=R.reverse) fun i hi=>HI.o.no i (List.mem_range.2 (by rw[List.length_reverse]at hi;exact hi)))
  generalize(W5.setCell ⟨W.1.size+1,0,none⟩ (.bool false)).putObj D (.deferred none)=Wf at HFin hres ⊢
  clear hf hn r0 rf hg hrow hK2;refine⟨.bool false,?_,?_⟩
  ·simp[results,Tryz.f168,go_sem,hres]
  ·rw[HL.o];exact⟨rfl,HFin.o.step⟩
 case stop =>
  rintro D c pre W5 hD ⟨kk,hkk,hpre⟩ hI hK;obtain⟨rfl,⟨pre0,x,e,hno,h0,bb5,xs5,ev5,fv5,uv5,hf⟩,hres⟩:=hI
  gi_wp2
  refine⟨by simp,.inl ⟨_,_,rfl,run_takeDeferred hK,?_⟩⟩;have hg:=grownBy_putObj' W5 D (.deferred none);have hrow:∀r,some D=some r→W4.1.size≤r∧∃o:Obj,W5.heap[r]? = some o∧o.isCells=false:=fun r e=>by cases e;exact⟨hD,_,hK,rfl⟩
  have HFin:=Zd (hf.grown (S:=W4.1.size) (by omega) (by omega) hg hrow);have hres2:=(hres.kept hg (fun r e=>(hrow r e).2)).c 0 rfl;have HL:Zi (Ko gs R.reverse s=(true,(Qk gs s (el R.reverse x)).2)):=by
   rw[hpre]at e;obtain⟨k2,rfl⟩:∃k2,kk=k2+1:=by
    cases kk with
    |zero=>simp at e
    |succ k2=>exact⟨k2,rfl⟩
   rw[List.range_succ]at e;obtain⟨e1,e2⟩:=List.append_inj' e rfl;obtain rfl:k2=x:=by simpa using e2
   exact lastS_at (by rw[List.length_reverse];omega) (fun i hi=>hno i (by rw[←e1];exact List.mem_range.2 hi)) h0
  generalize W5.putObj D (.deferred none)=Wf at HFin hres2 ⊢
  clear hf hres hg hrow hK hno h0 e hpre;refine⟨.bool true,?_,?_⟩
  ·simp[results,Tryz.f168,go_sem,hres2]
  ·rw[HL.o];exact⟨rfl,HFin.o.step⟩
end
theorem Flow.putClI{lo:Nat}{U:World}{p bb:Nat}{gv sv:Value}{xs:List Value}{ev fv uv:Value}{s:PP}(h:Flow lo U p bb gv sv xs ev fv uv s)(x:Bool) :
  FY lo p gv sv (FO p bb xs ev fv uv) U (U.setCell ⟨p,4,none⟩ (.bool x)) bb xs ev fv uv { s with cl:=x }:=by
 have hkp:∀b,b≠p→(U.setCell ⟨p,4,none⟩ (.bool x)).heap[b]? = U.heap[b]? := fun b h2=>Below.heap_setCell _ _ _ _ h2
 exact⟨⟨h.box.set 4 _,h.hnd.keep (hkp bb (fun e=>h.pbb e.symm)) (fun j hj b hb=>hkp b (fun e=>h.px j hj (by rw[←e];exact hb))),Za h.emo fun b hb=>hkp b (fun e=>h.pe (by rw[←e];exact hb)),Za h.fao fun b hb=>hkp b (fun e=>h.pf (by rw[←e];exact hb)),Za h.fuo fun b hb=>hkp b (fun e=>h.pu (by rw[←e];exact hb)),h.lop,h.lob,h.pbb,h.px,h.pe,h.pf,h.pu⟩,fun b hb=>.inl hb,(Below.refl _ _).setCell (p:=⟨p,4,none⟩) h.lop _,fun b _ hO=>hkp b (fun e=>hO (.inl e))⟩
theorem Kind.Fresh.ownI{α:Type}{K:Kind α}{lo hi:Nat}{W:World}{tq:Option Addr}{tc:Nat}{xs:List α}(h:K.Fresh lo hi W tq tc xs)(hn:0<xs.length):K.Own lo W (.slice tq xs.length tc) xs:=by
 obtain⟨g,e,_,_,_,ho⟩:=h.at hn;subst e;exact ho
theorem FStep.codesY{lo p:Nat}{gv sv:Value}{W W1:World}{bb:Nat}{xs:List Value}{ev fv uv:Value}{s:PP}{v:Value}{l:List Int}(h:FStep lo p gv sv (FO p bb xs ev fv uv) W W1 s)(ho:kI.Own lo W v l)(ha:∀b,v.ownBlock=some b→¬FO p bb xs ev fv uv b) :
  ∃bb2 xs2 ev2 fv2 uv2,FY lo p gv sv (FO p bb xs ev fv uv) W W1 bb2 xs2 ev2 fv2 uv2 s∧kI.Own lo W1 v l∧(∀b,v.ownBlock=some b→¬FO p bb2 xs2 ev2 fv2 uv2 b):=by
 obtain⟨bb2,xs2,ev2,fv2,uv2,F⟩:=h.fy;refine⟨bb2,xs2,ev2,fv2,uv2,F,Za ho (fun b hb2=>F.kept b (Zj ho hb2).2 (ha b hb2)),fun b hb2 hO=>?_⟩
 rcases F.old b hO with h1|h1
 ·exact ha b hb2 h1
 ·have:=(Zj ho hb2).2;omega
def AnsRy(lo p:Nat)(gv sv:Value)(gs:List PNode)(s:PP)(K:Nat)(O:Nat→Prop)(W:World)(e:Ending)(W':World):Prop :=
 ∃bb xs ev fv uv,e=.returned (.int .i64 (K:Int))∧FY lo p gv sv O W W' bb xs ev fv uv (itS gs K { s with cl:=true })
theorem runY_any(lo:Nat)(W:World)(p bb gb goff gc:Nat)(ts:List LNode)(sv:Value)(xs:List Value)(ev fv uv:Value)(s:PP)(K:Nat)(h:Flow lo W p bb (.slice (some ⟨gb,goff,none⟩) ts.length gc) sv xs ev fv uv s)(hz:DIn Ja lo W (some ⟨gb,goff,none⟩) ts)(hF:FitN ts)(h1:0<ts.length)(hG:GoodE (ts.map Zz))(hR:Ordd (ts.map Zz) (Zv (ts.map Zz)))(hI:RunI (ts.map Zz) 40000 9000 { s with cl:=true })(hK:Halts (ts.map Zz) { s with cl:=true } K)(hK2:K≤1000000000000000000) :
  Calls prog 128 #[.pointer (some ⟨p,0,none⟩)] W (AnsRy lo p (.slice (some ⟨gb,goff,none⟩) ts.length gc) sv (ts.map Zz) s K (FO p bb xs ev fv uv) W):=by
 have hlo:lo≤W.1.size:=h.lo_le;have hp:=h.box.size;have hmany:ts.length≤10:=by have:=hG.edg.many;rw[List.length_map]at this;exact this
 obtain⟨gs,hgs⟩:=nmd (ts.map Zz);have hgl:gs.length=ts.length:=by rw[hgs,Zb]
 have HFC:=Zd (h.putClI true);obtain⟨O,hO0⟩:=nmd (FO p bb xs ev fv uv);rw[←hO0]at HFC ⊢;obtain⟨V,hV⟩:=nmd (W.setCell ⟨p,4,none⟩ (.bool true));rw[←hV]at HFC;have HV:=Zd hV;have c4:=h.box.c 4 rfl;have f4:=h.box.f 4 rfl;have c0:=h.box.c 0 rfl;have hzV:=hz.below Zf HFC.o.low;have HZ:=Zd hz;have HO:=Zd (Yo (some ⟨gb,goff,none⟩) gc ts V (by omega) hF (hzV.up Zf HFC.o.flow.lo_le));have HG:=Zd hG;have HR:=Zd hR;have HI:=Zd (fun n=>hI.it hG hR n);have HK:=Zd hK;have HSL:=Zd (fun(V:World) (bb:Nat) (xs:List Value) (ev fv uv:Value) (s:PP) (go:Option Addr) (qc:Nat) (h:Flow lo V p bb (.slice (some ⟨gb,goff,none⟩) ts.length gc) sv xs ev fv uv s) (hb:Below lo W V) (hI:RunI (ts.map Zz) 40000 9000 s) hO hA=>stepLast_any lo V p bb gb goff gc ts sv xs ev fv uv s go qc (Zv (ts.map Zz)) h (hz.below Zf hb) h1 hG hR hR hI hO hA);rw[←hgs]at HO HG HR HI HK HSL ⊢;have HGS:=Zd hgs;obtain⟨s0,hs0⟩:∃s0:PP,s0={ s with cl:=true }:=⟨_,rfl⟩;have HS0:=Zd hs0;rw[←hs0]at HFC HI HK;have hRl:(Zv gs).length=ts.length:=by rw[HR.o.len,hgl]
 have HRL:=Zd hRl;have hr1:0<(Zv gs).length:=by omega
 clear hO0 hV hz hzV hG hR hI hK hgs hs0 hF hRl;go_enter func128,ntmps128;go_wp2_with fail;rw[←HV.o];refine HO.o.mono ?_;rintro e w1 ⟨⟨go,qc,rfl,hF1⟩,hb1⟩;clear c0 c4 f4;have HB1:=Zd (HFC.o.low.trans (hb1.mono HFC.o.flow.lo_le));have HO1:=Zd ((hF1.ownI hr1).mono HFC.o.flow.lo_le);have HA1:Zi (∀b,(Value.slice go (Zv gs).length qc).ownBlock=some b→¬FO p bb xs ev fv uv b):=fun b hb hO=>by
  obtain⟨g,e,hlg,_⟩:=hF1.at hr1;subst e;have:g=b:=by simpa[Value.ownBlock]using hb
  have:=HFC.o.flow.old hO
  omega
 have HF1:=Zd (HFC.o.later hb1);clear hF1 hb1 HO;go_wp2
 go_loopw [4] (fun i wr=>∃(k bb:Nat)(xs:List Value)(ev fv uv:Value),i=.int .i64 (k:Int)∧k≤K∧Zi (FY lo p (.slice (some ⟨gb,goff,none⟩) ts.length gc) sv O W wr bb xs ev fv uv (itS gs k s0))∧Zi (kI.Own lo wr (.slice go (Zv gs).length qc) (Zv gs))∧Zi (∀b,(Value.slice go (Zv gs).length qc).ownBlock=some b→¬FO p bb xs ev fv uv b)∧Zi (Below lo W wr)) (fun i _=>K-(intOf i).toNat)
 case atStart=>exact⟨0,bb,xs,ev,fv,uv,rfl,Nat.zero_le _,HF1,HO1,HA1,HB1⟩
 case round =>
  clear HF1 HO1 HA1 HB1 HFC HV;obtain⟨k,bb,xs,ev,fv,uv,rfl,hk,hF,hO,hA,hB⟩:=hrel;have HRI:=Zd (HI.o k);have c9:=hF.o.flow.box.c 9 rfl
  by_cases hlt:k<K
  ·have hne:=HK.o.go k hlt;have hltt:=Rw HG.o HR.o HRI.o hne;have HNX:Zi (itS gs (k+1) s0=(Ko gs (Zv gs).reverse (itS gs k s0)).2):=rfl;obtain⟨sk,hsk⟩:=nmd (itS gs k s0);rw[←hsk]at hF HRI hltt HNX hne c9;have htp:0<Zs sk.bx:=by omega
   have hst:=HSL.o wr bb xs ev fv uv sk go qc hF.o.flow hB.o HRI.o hO.o hA.o;rw[hltt]at hst;have HST:=Zd hst;clear hsk hne hltt hst;go_wp2_with fail;refine(Ht p 9 _ wr c9).mono ?_;rintro e w2 ⟨rfl,hw2⟩;rw[hw2];clear hw2 w2;go_wp2_with fail;refine HST.o.mono ?_;rintro e w4 ⟨rfl,hs4⟩;obtain⟨bb4,xs4,ev4,fv4,uv4,F4,O4,A4⟩:=hs4.codesY hO.o hA.o;have HF4:=Zd (hF.o.trans F4);have HO4:=Zd O4;have HA4:=Zd A4;have HB4:=Zd (hB.o.trans F4.low);clear hs4 F4 O4 A4 HST c9;go_wp2;go_roundw
   case rel=>exact⟨k+1,bb4,xs4,ev4,fv4,uv4,by go_num,by omega,by rw[HNX.o];exact HF4,HO4,HA4,HB4⟩
   case measure=>simp[intOf];omega
  ·obtain rfl:k=K:=by omega
   rw[HK.o.stop]at c9;go_wp2_with fail;refine(Ht p 9 _ wr c9).mono ?_;rintro e w2 ⟨rfl,hw2⟩;rw[hw2];clear hw2 w2 c9;go_wp2;go_ret;exact⟨bb,xs,ev,fv,uv,rfl,by rw[←HS0.o];exact hF.o⟩
def itB(x:Int):Prop:=0≤x∧x≤1000000
def TkB(t:Int×Int×Int):Prop:=itB t.1∧Ju t.2.1=true
def OuB(t:Int×Int×Int):Prop:=itB t.1∧itB t.2.1∧Ju t.2.2=true
def LoB(t:Int×Int×Int×Int):Prop:=itB t.1∧itB t.2.1∧Ju t.2.2.1=true∧itB t.2.2.2
theorem valB_rng{v:Int}(h:Ju v=true) : -1000000≤v∧v≤1000000:=by simpa[Ju]using h
theorem OuB.row{t:Int×Int×Int}(h:OuB t):Xi (Jj t):=fun x hx=>by
 have h1:=h.1;have h2:=h.2.1;have h3:=valB_rng h.2.2
 unfold itB at h1 h2
 simp only[Jj,List.mem_cons,List.not_mem_nil,or_false]at hx
 rcases hx with rfl|rfl|rfl <;> omega
theorem LoB.row{t:Int×Int×Int×Int}(h:LoB t):Xi (Qv t):=fun x hx=>by
 have h1:=h.1;have h2:=h.2.1;have h3:=valB_rng h.2.2.1;have h4:=h.2.2.2
 unfold itB at h1 h2 h4
 simp only[Qv,List.mem_cons,List.not_mem_nil,or_false]at hx
 rcases hx with rfl|rfl|rfl|rfl <;> omega
structure RgI(s:PP):Prop where
 len:s.bx.length≤10
 bx:∀k t,t∈el s.bx k→TkB t
 em:∀t∈s.em,OuB t
 fa:∀t∈s.fa,LoB t
theorem tkB_set{bx:List (List (Int×Int×Int))}(h:∀k t,t∈el bx k→TkB t)(k:Nat){x:List (Int×Int×Int)}(hx:∀t∈x,TkB t):∀j t,t∈el (bx.set k x) j→TkB t:=fun j t ht=>by
 by_cases e:j=k
 ·subst e
  by_cases hj:j<bx.length
  ·rw[Zh hj]at ht;exact hx t ht
  ·rw[List.set_eq_of_length_le (by omega)]at ht;exact h j t ht
 ·rw[Zm e]at ht;exact h j t ht
theorem tkB_put{bx:List (List (Int×Int×Int))}(h:∀k t,t∈el bx k→TkB t)(k:Nat){t0:Int×Int×Int}(h0:TkB t0):∀j t,t∈el (bx.set k (el bx k++[t0])) j→TkB t :=
 tkB_set h k fun t ht=>by
  rcases List.mem_append.1 ht with h1|h1
  ·exact h k t h1
  ·rw[List.mem_singleton.1 h1];exact h0
theorem tkB_puts{t0:Int×Int×Int}(h0:TkB t0):∀(l:List Int){bx:List (List (Int×Int×Int))},(∀k t,t∈el bx k→TkB t)→∀k t,t∈el (Jk t0 bx l) k→TkB t
 | [],_,h=>h
 |x::r,_,h=>tkB_puts h0 r (tkB_put h x.toNat h0)
theorem lostTo_in{bx:List (List (Int×Int×Int))}:∀{j:Nat}{e:Int×Int×Int×Int},e∈Jc bx j→∃k t,k<j∧t∈el bx k∧e=(t.1,(k:Int),t.2.1,2)
 |0,_,h=>by cases h
 |j+1,e,h=>by
  rw[Jc]at h
  rcases List.mem_append.1 h with h1|h1
  ·obtain⟨k,t,hk,ht,he⟩:=lostTo_in h1;exact⟨k,t,by omega,ht,he⟩
  ·obtain⟨t,ht,rfl⟩:=List.mem_map.1 h1;exact⟨j,t,by omega,ht,rfl⟩
theorem RgI.abort{s:PP}(h:RgI s):RgI (Wh s):=by
 refine⟨by show(clr s.bx s.bx.length).length≤10;rw[Dz (Nat.le_refl _)];exact h.len,fun k t ht=>?_,h.em,fun t ht=>?_⟩
 ·have ht2:t∈el (clr s.bx s.bx.length) k:=ht;rw[el_clr]at ht2;cases ht2
 ·rcases List.mem_append.1 (show t∈s.fa++Jc s.bx s.bx.length from ht)with h1|h1
  ·exact h.fa t h1
  ·obtain⟨k,u,hk,hu,rfl⟩:=lostTo_in h1;have hb:=h.bx k u hu;have hl:=h.len;exact⟨hb.1,⟨by dsimp only;omega,by dsimp only;omega⟩,hb.2,⟨by dsimp only;omega,by dsimp only;omega⟩⟩
theorem RgI.failT{s:PP}(h:RgI s):RgI (failT s):=by
 unfold Go.Proofs.YtdacedbfnlkghaaGreatDoor.failT
 split
 ·have a:=h.abort;exact⟨a.len,a.bx,a.em,a.fa⟩
 ·exact⟨h.len,h.bx,h.em,h.fa⟩
theorem RgI.fail{s:PP}(h:RgI s){k:Nat}{t1 t2 t3:Int}{r:List (Int×Int×Int)}(hk:k<s.bx.length)(hr:el s.bx k=(t1,t2,t3)::r):RgI (Kw s k t1 t2 t3 r):=by
 have h0:TkB (t1,t2,t3):=h.bx k _ (by rw[hr];simp);have hrr:∀t∈r,TkB t:=fun t ht=>h.bx k t (by rw[hr];exact List.mem_cons_of_mem _ ht)
 have hl:=h.len
 unfold Kw
 refine RgI.failT ?_
 split
 ·refine⟨by show(s.bx.set k r).length≤10;rw[List.length_set];exact hl,tkB_set h.bx k hrr,h.em,fun t ht=>?_⟩
  rcases List.mem_append.1 ht with h1|h1
  ·exact h.fa t h1
  ·rw[List.mem_singleton.1 h1];exact⟨h0.1,⟨by dsimp only;omega,by dsimp only;omega⟩,h0.2,⟨by dsimp only;omega,by dsimp only;omega⟩⟩
 ·refine⟨by show(s.bx.set k _).length≤10;rw[List.length_set];exact hl,tkB_set h.bx k fun t ht=>?_,h.em,h.fa⟩
  rcases List.mem_cons.1 ht with rfl|h1
  ·exact⟨h0.1,h0.2⟩
  ·exact hrr t h1
theorem RgI.lead{gs:List PNode}{k:Nat}{it:Int}(hit:itB it)(hk:k<10):∀(l:List Int){s:PP},(∀v∈l,Ju v=true)→RgI s→RgI (Zu gs k it l s)
 | [],_,_,h=>h
 |y::r,s,hl,h=>by
  rw[Zu];refine RgI.lead hit hk r (fun v hv=>hl v (List.mem_cons_of_mem _ hv)) ?_;have hy:=hl y (by simp);have hlen:=h.len
  unfold Kb
  split
  ·refine⟨hlen,h.bx,fun t ht=>?_,h.fa⟩
   rcases List.mem_append.1 ht with h1|h1
   ·exact h.em t h1
   ·rw[List.mem_singleton.1 h1];exact⟨hit,⟨by dsimp only;omega,by dsimp only;omega⟩,hy⟩
  ·exact⟨by show(Jk _ s.bx _).length≤10;rw[Yq];exact hlen,tkB_puts (t0:=(it,y,0)) ⟨hit,hy⟩ _ h.bx,h.em,h.fa⟩
theorem RgI.step{gs:List PNode}{s:PP}(h:RgI s)(m:Int):RgI (Qk gs s m).2:=by
 by_cases h0:(Qk gs s m).1=0
 ·obtain⟨k,t1,t2,t3,r,rfl,hk,hr,hc⟩:=Ho h0;have hl:=h.len
  rcases hc with hc|⟨_,hc⟩
  ·rw[hc];exact h.fail hk hr
  ·rw[hc];have h1:TkB (t1,t2,t3):=h.bx k _ (by rw[hr];simp);exact RgI.lead h1.1 (by omega) _ (fun v hv=>appR_val v hv) ⟨by show(s.bx.set k r).length≤10;rw[List.length_set];exact hl,tkB_set h.bx k fun t ht=>h.bx k t (by rw[hr];exact List.mem_cons_of_mem _ ht),h.em,h.fa⟩
 ·rw[Ln h0];exact h
theorem RgI.it{gs:List PNode}{s:PP}(h:RgI s):∀n,RgI (itS gs n s)
 |0=>h
 |n+1=>by
  have ih:=RgI.it (gs:=gs) h n;rw[itS]
  by_cases hl:(Ko gs (Zv gs).reverse (itS gs n s)).1=true
  ·obtain⟨x,_,_,e⟩:=Yc hl;rw[e];exact ih.step x
  ·rw[Lq hl];exact ih
theorem RgI.move{gs:List PNode}{src:List Int}{s:PP}(h:RgI s)(hi:itB s.it)(m1 m2 m3:Int):RgI (doR gs src s m1 m2 m3).2:=by
 have hl:=h.len
 unfold doR
 split
 ·unfold Qp
  split
  ·rename_i hv
   split
   ·exact h
   ·split
    ·exact h
    ·exact⟨by show(s.bx.set _ _).length≤10;rw[List.length_set];exact hl,tkB_put (t0:=(s.it,m3,0)) h.bx _ ⟨hi,hv.2⟩,h.em,h.fa⟩
  ·exact h
 ·split
  ·exact h.step _
  ·split
   ·unfold Jn
    split
    ·rename_i hin
     split
     ·exact h
     ·rename_i t r hr;obtain⟨t1,t2,t3⟩:=t;exact h.fail (by omega) hr
    ·exact h
   ·split
    ·unfold Xn
     split
     ·exact h
     ·split
      ·exact h
      ·exact⟨h.len,h.bx,h.em,h.fa⟩
    ·split
     ·unfold Kr
      split
      ·exact h
      ·exact⟨h.len,h.bx,h.em,h.fa⟩
     ·split
      ·unfold Kz
       split
       ·exact h
       ·exact h.abort
      ·exact h
theorem RgI.zero{N:Nat}(hN:N≤10):RgI (pp0 N):=by
 refine⟨by show(List.replicate N []).length≤10;rw[List.length_replicate];exact hN,fun k t ht=>?_,fun t ht=>(by cases ht),fun t ht=>(by cases ht)⟩;have h1:t∈el (List.replicate N ([]:List (Int×Int×Int))) k:=ht;rw[el]at h1
 by_cases hk:k<N
 ·simp[hk]at h1
 ·rw[List.getElem?_eq_none (by simp;omega)]at h1;cases h1
theorem meanN_rng{gs:List PNode}(hG:GoodE gs):∀(n k:Nat)(v:Int),k<gs.length→Ju v=true→∀e∈Do gs n k v,itB e.1∧Ju e.2=true
 |0,_,_,_,_,_,h=>by cases h
 |n+1,k,v,hk,hv,e,h=>by
  have hm:=hG.edg.many;rw[Do,List.mem_flatMap]at h;obtain⟨x,hx,he⟩:=h;have hxv:Ju x=true:=by
   unfold Tb at hx
   split at hx
   ·rw[List.mem_singleton.1 hx];exact hv
   ·exact Dx (hG.st k hk) hv x hx
  split at he
  ·rw[List.mem_singleton.1 he];exact⟨⟨by dsimp only;omega,by dsimp only;omega⟩,hxv⟩
  ·obtain⟨y,hy,he⟩:=List.mem_flatMap.1 he;obtain⟨a,ha,rfl⟩:=hG.edg.rng k hk y hy;rw[Int.toNat_natCast]at he;exact meanN_rng hG n a x ha hxv e he
theorem My(gs:List PNode)(k v:Int):(Xy gs k v).1.length≤400:=by
 unfold Xy
 split
 ·unfold Pr
  split
  ·simp
  ·rw[Ps];omega
 ·simp
theorem meanR_row(gs:List PNode)(k v:Int):∀t∈(Xy gs k v).1,Xi (Qj t):=by
 intro t ht
 unfold Xy at ht
 split at ht
 ·rename_i h
  unfold Pr at ht
  split at ht
  ·cases ht
  ·have h1:=meanN_rng (Nk h.1) gs.length k.toNat v (by omega) h.2.2.2.1 t ((Tv _).mem_iff.1 ht);have h2:=h1.1;have h3:=valB_rng h1.2
   unfold itB at h2
   intro x hx;simp only[Qj,List.mem_cons,List.not_mem_nil,or_false]at hx
   rcases hx with rfl|rfl <;> omega
 ·cases ht
end Go.Proofs.YtdacedbfnlkghaaGreatDoor