/- A fault of the first token. Whether a node has a first token. A fault of a node. The room of a box. What is wrong with a graph: the program's telling. No conditions but those written. -/
import Derived.Test.YtdacedbfnlkghaaGreatDoorUZkZv
namespace Go.Proofs.YtdacedbfnlkghaaGreatDoor
set_option maxHeartbeats 8000000
set_option maxRecDepth 100000
open Go.RowKit Go.Proofs.Tryz
theorem FStep.comp{lo p:Nat}{gv sv:Value}{O:Nat→Prop}{W W1 W2:World}{s2:PP}(hb:Below lo W W1)(hk:∀b,b<W.1.size→¬O b→W1.heap[b]? = W.heap[b]?)(h2:FStep lo p gv sv O W1 W2 s2):FStep lo p gv sv O W W2 s2:=by
 obtain⟨O2,f2,hs2,hb2,hk2⟩:=h2;have hz:=hb.size;refine⟨O2,f2,fun b h1=>?_,hb.trans hb2,fun b h1 h3=>(hk2 b (by omega) h3).trans (hk b h1 h3)⟩
 rcases hs2 b h1 with h4|h4
 ·exact .inl h4
 ·exact .inr (by omega)
def failT(s2:PP):PP:=if 5<(Qg s2.fu (s2.ti-10)++[s2.ti]).length then{ Wh s2 with fu:=[] }else{ s2 with fu:=Qg s2.fu (s2.ti-10)++[s2.ti] }
def Kw(s:PP)(k:Nat)(t1 t2 t3:Int)(r:List (Int×Int×Int)):PP :=
 failT (if 3<t3+1 then{ s with bx:=s.bx.set k r,fa:=s.fa++[(t1,(k:Int),t2,1)] }else{ s with bx:=s.bx.set k ((t1,t2,t3+1)::r) })
theorem Rl(lo:Nat)(W:World)(p bb:Nat)(gv sv:Value)(xs:List Value)(ev fv uv:Value)(s:PP)(k:Nat)(t1 t2 t3:Int)(r:List (Int×Int×Int))(h:Flow lo W p bb gv sv xs ev fv uv s)(hk:k<s.bx.length)(hr:el s.bx k=(t1,t2,t3)::r)(hn:s.bx.length≤10)(ht:Zs s.bx+s.fa.length≤100000)(hfu:s.fu.length≤100)(h0:0≤s.ti)(h1:s.ti≤1000000)(h3:0≤t3)(h4:t3≤1000) :
  Calls prog 238 #[.pointer (some ⟨p,0,none⟩),.int .i64 (k:Int)] W fun e W'=>(∃v,e=.returned v)∧FStep lo p gv sv (FO p bb xs ev fv uv) W W' (Kw s k t1 t2 t3 r):=by
 have hxk:k<xs.length:=by rw[h.hnd.len];exact hk
 obtain⟨ho,hc,hsl,hcn,hFr⟩:=h.hnd.slice hk;rw[hr]at hsl hFr;obtain⟨g,rfl,hg1,hg2,hg3,hgo⟩:=hFr.at (by simp);simp only[List.length_cons]at hsl;have c5:=h.box.c 5 rfl;have ck:=(h.head hk).1;rw[hsl]at ck;have hki:(k:Int)<(s.bx.length:Int):=by omega
 obtain⟨b0,off0,e0,hbl,hcs⟩:=Ub hFr.in (k:=0) (by simp)
 simp at e0
 obtain⟨rfl,rfl⟩:=e0;have d2:W.cell? ⟨g,2,none⟩=some (.int .i64 t3):=(hcs 0 (by simp)).2.2;have e2:W.frozen? ⟨g,2,none⟩=false:=hgo.frozenAt 2;have F1:=h.putTry hk hr hsl (t3+1);obtain⟨W1,hW1⟩:=nmd (W.setCell ⟨g,2,none⟩ (.int .i64 (t3+1)));rw[←hW1]at F1;have hlow:lo≤g:=Nat.le_trans h.lob (by omega);have hst1:FStep lo p gv sv (FO p bb xs ev fv uv) W W1 { s with bx:=s.bx.set k ((t1,t2,t3+1)::r) }:=⟨_,⟨bb,xs,ev,fv,uv,F1,fun b hb=>hb⟩,fun b hb=>.inl hb,by rw[hW1];exact(Below.refl _ _).setCell (p:=⟨g,2,none⟩) hlow _,fun b hb hO=>by rw[hW1];exact Below.heap_setCell _ _ _ _ (fun e=>hO (.inr (.inr (.inl ⟨k,hxk,by rw[hsl,e];rfl⟩))))⟩;have hB1:Below lo W W1:=by rw[hW1];exact(Below.refl _ _).setCell (p:=⟨g,2,none⟩) hlow _
 have hK1:∀b,b<W.1.size→¬FO p bb xs ev fv uv b→W1.heap[b]? = W.heap[b]? := fun b hb hO=>by rw[hW1];exact Below.heap_setCell _ _ _ _ (fun e=>hO (.inr (.inr (.inl ⟨k,hxk,by rw[hsl,e];rfl⟩))))
 have HW1:=Zd hW1;have HS1:=Zd hst1;have HF1:=Zd F1;have hTS:=Jb (ls:=s.bx) (k:=k) ((t1,t2,t3+1)::r) hk;rw[hr]at hTS;simp only[List.length_cons]at hTS;clear hW1 hst1 F1 hcs hFr hgo hbl;go_enter func238,ntmps238
 by_cases hp3:3<t3+1
 ·have hd3:decide (3<t3+1)=true:=by simpa using hp3
  have hL:=lose_any lo W1 p bb gv sv xs ev fv uv _ k 1 t1 t2 (t3+1) r HF1.o (by simp only[List.length_set];exact hk) (Zh hk) (by dsimp only;omega) (by dsimp only;omega);have HL0:=Zd hL;clear hL;go_wp2_with fail;rw[←HW1.o];refine HL0.o.mono ?_;rintro e w2 ⟨⟨v2,rfl⟩,hs0⟩
  rw[List.set_set]at hs0;obtain⟨s2,hs2⟩:∃s2:PP,s2={ s with bx:=s.bx.set k r,fa:=s.fa++[(t1,(k:Int),t2,1)] }:=⟨_,rfl⟩;have HFT:Zi (Kw s k t1 t2 t3 r=failT s2):=by rw[Zi,Kw,if_pos hp3,hs2]
  have HS2:Zi (FStep lo p gv sv (FO p bb xs ev fv uv) W w2 s2):=by rw[Zi,hs2];exact FStep.comp hB1 hK1 hs0
  have hTS2:=Jb (ls:=s.bx) (k:=k) r hk;rw[hr]at hTS2;simp only[List.length_cons]at hTS2;clear HS1 HF1 c5 ck d2 e2 HW1 hs0 HL0;go_wp2_with fail;have hti0:0≤s2.ti:=by rw[hs2];exact h0
  have hti1:s2.ti≤1000000:=by rw[hs2];exact h1
  have hfu2:s2.fu.length≤100:=by rw[hs2];exact hfu
  have hn2:s2.bx.length≤10:=by rw[hs2];simp only[List.length_set];exact hn
  have ht2:Zs s2.bx+s2.fa.length≤100000:=by rw[hs2];(show Zs (s.bx.set k r)+(s.fa++[_]).length≤100000);rw[List.length_append,List.length_singleton];omega
  obtain⟨bb2,xs2,ev2,fv2,uv2,F2,_,_,_,hgo⟩:=HS2.o.next;have HGO:=Zd hgo;clear hgo hs2 HS2;obtain⟨uo,uc,huv,_,_⟩:=F2.fuo.fresh;obtain⟨_,_,huv2,_,hIU⟩:=F2.fuo.in;have hIU2:kI.In w2.1.size w2 uo s2.fu:=by rw[huv]at huv2;simp at huv2;rw[huv2.1];exact hIU
  have HIU:=Zd hIU2;have SU:=And.intro (F2.box.c 8 rfl) (F2.box.c 2 rfl);rw[huv]at SU;have hpw:=F2.box.size;have hlo:lo≤w2.1.size:=Nat.le_of_lt (Nat.lt_of_le_of_lt F2.lop F2.box.size);have hw10:IntKind.i64.wrap (s2.ti-10)=s2.ti-10:=by rw[IntKind.wrap_i64];omega
  have HF2:=Zd F2;clear hIU hIU2 huv2 F2;refine Qq (zl:=[23]) (S:=fun Y=>Y.cell? ⟨p,8,none⟩=some (.slice uo s2.fu.length uc)∧Y.cell? ⟨p,2,none⟩=some (.int .i64 s2.ti)) (by kernel_rfl) SU (fun hH=>?_);refine Zq 0 hH ?_;refine Zq 1 hH ?_;refine Zq 2 hH ?_;refine Zq 3 hH ?_;refine Zq 4 hH ?_;refine Zq 5 hH ?_;refine Zq 6 hH ?_;refine Zq 7 hH ?_;refine Zq 8 hH ?_;refine Zq 9 hH ?_;refine Zq 10 hH ?_;refine Zq 11 hH ?_;refine Zq 13 hH ?_;refine Zq 14 hH ?_;refine Zq 15 hH ?_;refine Zq 16 hH ?_;refine Zq 17 hH ?_;refine Walks.two (i:=12) (j:=18) (o:=_) (o2:=_) (by kernel_rfl) rfl rfl (fun K hK=>?_) (fun K hK=>?_)
  case' _ =>
   go_simp;refine(Vk uo uc s2.fu (s2.ti-10) w2.drew (by omega) (by exact HIU.o)).mono ?_;rintro e w1 ⟨⟨v1,rfl,hO1⟩,hb10⟩;have hb1:Below w2.1.size w2 w1:=(Below.refl w2.1.size w2).drew.trans hb10;clear hb10;have S1:=And.intro ((hb1.cell (p:=⟨p,8,none⟩) hpw).trans SU.1) ((hb1.cell (p:=⟨p,2,none⟩) hpw).trans SU.2);refine hK.out _ _ (fun _=>S1) (fun _=>?_);clear hK K;refine Walks.on 18 fun K hK=>?_
   go_simp;obtain⟨X,hX⟩:=nmd (w1.alloc (.cells #[.int .i64 s2.ti] 3));rw[←hX];have hbX1:Below w1.1.size w1 X:=by rw[hX];exact Zk _ _
   have hN:kI.In X.1.size X (some ⟨w1.1.size,0,none⟩) [s2.ti]:=by rw[hX];exact Kc (by simp) (by simp)
   obtain⟨q,hq⟩:=nmd (w1.1.size);rw[←hq]at hN ⊢;have hOX:kI.Own w2.1.size X v1 (Qg s2.fu (s2.ti-10)):=hO1.below hbX1;have hbX:Below w2.1.size w2 X:=hb1.trans (hbX1.mono hb1.size);clear hX hq hbX1 hb1 hO1 S1;have hXs:=hbX.size;have SX:=And.intro ((hbX.cell (p:=⟨p,8,none⟩) hpw).trans SU.1) ((hbX.cell (p:=⟨p,2,none⟩) hpw).trans SU.2);refine hK.out _ _ (fun _=>SX) (fun _=>?_);clear hK K;refine Walks.on 19 fun K hK=>?_
   refine Je Vq X (by rfl) (.tmp 41) (.tmp 47) (by rfl) w2.1.size v1 (Qg s2.fu (s2.ti-10)) (by rfl) hOX hXs (some ⟨q,0,none⟩) [s2.ti] 1 1 (by rfl) rfl (by simp) _ hN (by have:=Wg s2.fu (s2.ti-10);simp;omega) ?_;intro v' w3 hO3 hB3 hG3 hw3;obtain⟨L,hL⟩:=nmd (Qg s2.fu (s2.ti-10)++[s2.ti]);rw[←hL]at hO3;have HL:=Zd hL;clear hL;obtain⟨vo,vc,hv',_,_⟩:=hO3.fresh;have hb3:Below w2.1.size w2 w3:=hbX.trans hB3;have S3:=And.intro ((hb3.cell (p:=⟨p,8,none⟩) hpw).trans SU.1) ((hb3.cell (p:=⟨p,2,none⟩) hpw).trans SU.2);have c8:=S3.1;have f8:w3.frozen? ⟨p,8,none⟩=false:=(hb3.frozen (p:=⟨p,8,none⟩) hpw).trans (HF2.o.box.f 8 rfl);have hst:=HF2.o.putFu (Yn hO3 hlo) (hb3.mono hlo) ⟨hb3.os,hb3.tape,hb3.output,hb3.size,fun b h1 _=>hb3.block b h1⟩ (fun b hb=>.inr (Zj hO3 hb).1);have HST:=Zd hst;clear hst;refine hK.out _ _ (fun _=>S3) (fun _=>?_);clear hK K;refine Walks.on 20 fun K hK=>?_
   go_simp;refine hK.out _ _ (fun _=>S3) (fun _=>?_);clear hK K;refine Walks.on 21 fun K hK=>?_
   go_simp;refine hK.out _ _ (fun _=>S3) (fun _=>?_);clear hK K;refine Zq 22 S3 ?_
  rotate_left
  case' _ =>
   go_simp;obtain⟨Y,hY⟩:=nmd ((w2.alloc (.cells #[.int .i64 s2.ti] 3)).drew);rw[←hY];have hbY:Below w2.1.size w2 Y:=by rw[hY];exact(Zk _ _).drew
   have hNY:kI.In Y.1.size Y (some ⟨w2.1.size,0,none⟩) [s2.ti]:=by rw[hY];exact Kc (by show w2.1.size<(w2.alloc _).heap.size;simp) (by simp)
   obtain⟨q,hq⟩:=nmd (w2.1.size);rw[←hq]at hNY;have HQ:=Zd hq;have SY:=And.intro ((hbY.cell (p:=⟨p,8,none⟩) hpw).trans SU.1) ((hbY.cell (p:=⟨p,2,none⟩) hpw).trans SU.2);refine hK.out _ _ (fun _=>SY) (fun _=>?_);clear hK K hY hq;refine Walks.on 12 fun K hK=>?_
   go_simp;refine(Vk uo uc s2.fu (s2.ti-10) Y (by omega) (HIU.o.later hbY)).mono ?_;rintro e X ⟨⟨v1,rfl,hO1⟩,hb1⟩;have hOX:kI.Own w2.1.size X v1 (Qg s2.fu (s2.ti-10)):=Yn hO1 hbY.size;have hN:=hNY.later hb1;have hbX:Below w2.1.size w2 X:=hbY.trans (hb1.mono hbY.size);rw[←HQ.o];clear hb1 hO1 hbY hNY SY;have hXs:=hbX.size;have SX:=And.intro ((hbX.cell (p:=⟨p,8,none⟩) hpw).trans SU.1) ((hbX.cell (p:=⟨p,2,none⟩) hpw).trans SU.2);refine hK.out _ _ (fun _=>SX) (fun _=>?_);clear hK K;refine Walks.on 19 fun K hK=>?_
   refine Je Vq X (by rfl) (.tmp 41) (.tmp 47) (by rfl) w2.1.size v1 (Qg s2.fu (s2.ti-10)) (by rfl) hOX hXs (some ⟨q,0,none⟩) [s2.ti] 1 1 (by rfl) rfl (by simp) _ hN (by have:=Wg s2.fu (s2.ti-10);simp;omega) ?_;intro v' w3 hO3 hB3 hG3 hw3;obtain⟨L,hL⟩:=nmd (Qg s2.fu (s2.ti-10)++[s2.ti]);rw[←hL]at hO3;have HL:=Zd hL;clear hL;obtain⟨vo,vc,hv',_,_⟩:=hO3.fresh;have hb3:Below w2.1.size w2 w3:=hbX.trans hB3;have S3:=And.intro ((hb3.cell (p:=⟨p,8,none⟩) hpw).trans SU.1) ((hb3.cell (p:=⟨p,2,none⟩) hpw).trans SU.2);have c8:=S3.1;have f8:w3.frozen? ⟨p,8,none⟩=false:=(hb3.frozen (p:=⟨p,8,none⟩) hpw).trans (HF2.o.box.f 8 rfl);have hst:=HF2.o.putFu (Yn hO3 hlo) (hb3.mono hlo) ⟨hb3.os,hb3.tape,hb3.output,hb3.size,fun b h1 _=>hb3.block b h1⟩ (fun b hb=>.inr (Zj hO3 hb).1);have HST:=Zd hst;clear hst;refine hK.out _ _ (fun _=>S3) (fun _=>?_);clear hK K;refine Walks.on 20 fun K hK=>?_
   go_simp;refine hK.out _ _ (fun _=>S3) (fun _=>?_);clear hK K;refine Walks.on 21 fun K hK=>?_
   go_simp;refine hK.out _ _ (fun _=>S3) (fun _=>?_);clear hK K;refine Zq 22 S3 ?_
  all_goals
   refine Walks.on 23 fun K hK=>?_
   rw[hv']at HST;go_simp;refine hK.out _ _ (fun h=>absurd h (by decide)) (fun _=>?_);refine Walks.done (by kernel_rfl) ?_ _;clear hK K;obtain⟨w4,h4⟩:=nmd (w3.setCell ⟨p,8,none⟩ (.slice vo L.length vc));rw[←h4]at HST ⊢;obtain⟨bb4,xs4,ev4,fv4,uv4,F4,_,_,_,hgo4⟩:=HST.o.next;have HG4:=Zd (HGO.o _ _ _ (Below.refl _ _) HST.o);have HGO4:Zi (∀w5 s5,FStep lo p gv sv (FO p bb4 xs4 ev4 fv4 uv4) w4 w5 s5→FStep lo p gv sv (FO p bb xs ev fv uv) W w5 s5):=fun w5 s5 h5=>HGO.o _ _ _ (Below.refl _ _) (hgo4 _ _ _ (Below.refl _ _) h5)
   have c8':=F4.box.c 8 rfl;obtain⟨uo4,uc4,hu4,_,_⟩:=F4.fuo.fresh;rw[hu4]at c8';have HF4:=Zd F4;clear hgo4 F4 h4 c8 f8 S3 SX
   by_cases h5:5<L.length
   ·have hd5:decide (5<(L.length:Int))=true:=by simp;omega
    have hA:=Pa lo w4 p bb4 gv sv xs4 ev4 fv4 uv4 _ HF4.o hn2 ht2;have HA:=Zd hA;clear hA;go_wp2_with fail;refine HA.o.mono ?_;rintro e w5 ⟨⟨v5,rfl⟩,hs5⟩;obtain⟨bb5,xs5,ev5,fv5,uv5,F5,_,_,_,hgo5⟩:=hs5.next;have c85:=F5.box.c 8 rfl;have f85:=F5.box.f 8 rfl;have hN5:=F5.putFu (v':=.slice none 0 0) (L:=[]) (Kind.Own.nil _ _ _) (Below.refl _ _) ⟨rfl,rfl,rfl,Nat.le_refl _,fun _ _ _=>rfl⟩ (fun g hg=>by simp[Value.ownBlock]at hg);have HN5:=Zd (HGO4.o _ _ (hgo5 _ _ _ (Below.refl _ _) hN5));obtain⟨uo5,uc5,hu5,_,_⟩:=F5.fuo.fresh;rw[hu5]at c85;clear hN5 hgo5 F5 hs5 HF4 HGO4 HG4;go_wp2
    first|refine bodyPost_ret (results_none rfl _ _ _) rfl ?_|refine bodyPost_end (results_none rfl _ _ _) rfl ?_
    refine⟨⟨_,rfl⟩,?_⟩;have hf:failT s2={ Wh s2 with fu:=[] }:=by rw[failT,if_pos (by rw[←HL.o];exact h5)]
    rw[HFT.o,hf];exact HN5.o
   ·have hd5:decide (5<(L.length:Int))=false:=by simp;omega
    go_wp2
    first|refine bodyPost_ret (results_none rfl _ _ _) rfl ?_|refine bodyPost_end (results_none rfl _ _ _) rfl ?_
    refine⟨⟨_,rfl⟩,?_⟩;have hf:failT s2={ s2 with fu:=L }:=by rw[failT,if_neg (by rw[←HL.o];exact h5),←HL.o]
    rw[HFT.o,hf];exact HG4.o
 ·have hd3:decide (3<t3+1)=false:=by simpa using hp3
  go_wp2_with fail;rw[←HW1.o];obtain⟨s2,hs2⟩:∃s2:PP,s2={ s with bx:=s.bx.set k ((t1,t2,t3+1)::r) }:=⟨_,rfl⟩;have HFT:Zi (Kw s k t1 t2 t3 r=failT s2):=by rw[Zi,Kw,if_neg (by omega),hs2]
  have HS2:=HS1;rw[←hs2]at HS2;clear HS1 HF1 c5 ck d2 e2 HW1;have hti0:0≤s2.ti:=by rw[hs2];exact h0
  have hti1:s2.ti≤1000000:=by rw[hs2];exact h1
  have hfu2:s2.fu.length≤100:=by rw[hs2];exact hfu
  have hn2:s2.bx.length≤10:=by rw[hs2];simp only[List.length_set];exact hn
  have ht2:Zs s2.bx+s2.fa.length≤100000:=by rw[hs2];(show Zs (s.bx.set k _)+s.fa.length≤100000);omega
  obtain⟨bb2,xs2,ev2,fv2,uv2,F2,_,_,_,hgo⟩:=HS2.o.next;have HGO:=Zd hgo;clear hgo hs2 HS2;obtain⟨uo,uc,huv,_,_⟩:=F2.fuo.fresh;obtain⟨_,_,huv2,_,hIU⟩:=F2.fuo.in;have hIU2:kI.In W1.1.size W1 uo s2.fu:=by rw[huv]at huv2;simp at huv2;rw[huv2.1];exact hIU
  have HIU:=Zd hIU2;have SU:=And.intro (F2.box.c 8 rfl) (F2.box.c 2 rfl);rw[huv]at SU;have hpw:=F2.box.size;have hlo:lo≤W1.1.size:=Nat.le_of_lt (Nat.lt_of_le_of_lt F2.lop F2.box.size);have hw10:IntKind.i64.wrap (s2.ti-10)=s2.ti-10:=by rw[IntKind.wrap_i64];omega
  have HF2:=Zd F2;clear hIU hIU2 huv2 F2;refine Qq (zl:=[23]) (S:=fun Y=>Y.cell? ⟨p,8,none⟩=some (.slice uo s2.fu.length uc)∧Y.cell? ⟨p,2,none⟩=some (.int .i64 s2.ti)) (by kernel_rfl) SU (fun hH=>?_);refine Zq 0 hH ?_;refine Zq 1 hH ?_;refine Zq 2 hH ?_;refine Zq 3 hH ?_;refine Zq 4 hH ?_;refine Zq 5 hH ?_;refine Zq 6 hH ?_;refine Zq 7 hH ?_;refine Zq 8 hH ?_;refine Zq 9 hH ?_;refine Zq 10 hH ?_;refine Zq 11 hH ?_;refine Zq 13 hH ?_;refine Zq 14 hH ?_;refine Zq 15 hH ?_;refine Zq 16 hH ?_;refine Zq 17 hH ?_;refine Walks.two (i:=12) (j:=18) (o:=_) (o2:=_) (by kernel_rfl) rfl rfl (fun K hK=>?_) (fun K hK=>?_)
  case' _ =>
   go_simp;refine(Vk uo uc s2.fu (s2.ti-10) W1.drew (by omega) (by exact HIU.o)).mono ?_;rintro e w1 ⟨⟨v1,rfl,hO1⟩,hb10⟩;have hb1:Below W1.1.size W1 w1:=(Below.refl W1.1.size W1).drew.trans hb10;clear hb10;have S1:=And.intro ((hb1.cell (p:=⟨p,8,none⟩) hpw).trans SU.1) ((hb1.cell (p:=⟨p,2,none⟩) hpw).trans SU.2);refine hK.out _ _ (fun _=>S1) (fun _=>?_);clear hK K;refine Walks.on 18 fun K hK=>?_
   go_simp;obtain⟨X,hX⟩:=nmd (w1.alloc (.cells #[.int .i64 s2.ti] 3));rw[←hX];have hbX1:Below w1.1.size w1 X:=by rw[hX];exact Zk _ _
   have hN:kI.In X.1.size X (some ⟨w1.1.size,0,none⟩) [s2.ti]:=by rw[hX];exact Kc (by simp) (by simp)
   obtain⟨q,hq⟩:=nmd (w1.1.size);rw[←hq]at hN ⊢;have hOX:kI.Own W1.1.size X v1 (Qg s2.fu (s2.ti-10)):=hO1.below hbX1;have hbX:Below W1.1.size W1 X:=hb1.trans (hbX1.mono hb1.size);clear hX hq hbX1 hb1 hO1 S1;have hXs:=hbX.size;have SX:=And.intro ((hbX.cell (p:=⟨p,8,none⟩) hpw).trans SU.1) ((hbX.cell (p:=⟨p,2,none⟩) hpw).trans SU.2);refine hK.out _ _ (fun _=>SX) (fun _=>?_);clear hK K;refine Walks.on 19 fun K hK=>?_
   refine Je Vq X (by rfl) (.tmp 41) (.tmp 47) (by rfl) W1.1.size v1 (Qg s2.fu (s2.ti-10)) (by rfl) hOX hXs (some ⟨q,0,none⟩) [s2.ti] 1 1 (by rfl) rfl (by simp) _ hN (by have:=Wg s2.fu (s2.ti-10);simp;omega) ?_;intro v' w3 hO3 hB3 hG3 hw3;obtain⟨L,hL⟩:=nmd (Qg s2.fu (s2.ti-10)++[s2.ti]);rw[←hL]at hO3;have HL:=Zd hL;clear hL;obtain⟨vo,vc,hv',_,_⟩:=hO3.fresh;have hb3:Below W1.1.size W1 w3:=hbX.trans hB3;have S3:=And.intro ((hb3.cell (p:=⟨p,8,none⟩) hpw).trans SU.1) ((hb3.cell (p:=⟨p,2,none⟩) hpw).trans SU.2);have c8:=S3.1;have f8:w3.frozen? ⟨p,8,none⟩=false:=(hb3.frozen (p:=⟨p,8,none⟩) hpw).trans (HF2.o.box.f 8 rfl);have hst:=HF2.o.putFu (Yn hO3 hlo) (hb3.mono hlo) ⟨hb3.os,hb3.tape,hb3.output,hb3.size,fun b h1 _=>hb3.block b h1⟩ (fun b hb=>.inr (Zj hO3 hb).1);have HST:=Zd hst;clear hst;refine hK.out _ _ (fun _=>S3) (fun _=>?_);clear hK K;refine Walks.on 20 fun K hK=>?_
   go_simp;refine hK.out _ _ (fun _=>S3) (fun _=>?_);clear hK K;refine Walks.on 21 fun K hK=>?_
   go_simp;refine hK.out _ _ (fun _=>S3) (fun _=>?_);clear hK K;refine Zq 22 S3 ?_
  rotate_left
  case' _ =>
   go_simp;obtain⟨Y,hY⟩:=nmd ((W1.alloc (.cells #[.int .i64 s2.ti] 3)).drew);rw[←hY];have hbY:Below W1.1.size W1 Y:=by rw[hY];exact(Zk _ _).drew
   have hNY:kI.In Y.1.size Y (some ⟨W1.1.size,0,none⟩) [s2.ti]:=by rw[hY];exact Kc (by show W1.1.size<(W1.alloc _).heap.size;simp) (by simp)
   obtain⟨q,hq⟩:=nmd (W1.1.size);rw[←hq]at hNY;have HQ:=Zd hq;have SY:=And.intro ((hbY.cell (p:=⟨p,8,none⟩) hpw).trans SU.1) ((hbY.cell (p:=⟨p,2,none⟩) hpw).trans SU.2);refine hK.out _ _ (fun _=>SY) (fun _=>?_);clear hK K hY hq;refine Walks.on 12 fun K hK=>?_
   go_simp;refine(Vk uo uc s2.fu (s2.ti-10) Y (by omega) (HIU.o.later hbY)).mono ?_;rintro e X ⟨⟨v1,rfl,hO1⟩,hb1⟩;have hOX:kI.Own W1.1.size X v1 (Qg s2.fu (s2.ti-10)):=Yn hO1 hbY.size;have hN:=hNY.later hb1;have hbX:Below W1.1.size W1 X:=hbY.trans (hb1.mono hbY.size);rw[←HQ.o];clear hb1 hO1 hbY hNY SY;have hXs:=hbX.size;have SX:=And.intro ((hbX.cell (p:=⟨p,8,none⟩) hpw).trans SU.1) ((hbX.cell (p:=⟨p,2,none⟩) hpw).trans SU.2);refine hK.out _ _ (fun _=>SX) (fun _=>?_);clear hK K;refine Walks.on 19 fun K hK=>?_
   refine Je Vq X (by rfl) (.tmp 41) (.tmp 47) (by rfl) W1.1.size v1 (Qg s2.fu (s2.ti-10)) (by rfl) hOX hXs (some ⟨q,0,none⟩) [s2.ti] 1 1 (by rfl) rfl (by simp) _ hN (by have:=Wg s2.fu (s2.ti-10);simp;omega) ?_;intro v' w3 hO3 hB3 hG3 hw3;obtain⟨L,hL⟩:=nmd (Qg s2.fu (s2.ti-10)++[s2.ti]);rw[←hL]at hO3;have HL:=Zd hL;clear hL;obtain⟨vo,vc,hv',_,_⟩:=hO3.fresh;have hb3:Below W1.1.size W1 w3:=hbX.trans hB3;have S3:=And.intro ((hb3.cell (p:=⟨p,8,none⟩) hpw).trans SU.1) ((hb3.cell (p:=⟨p,2,none⟩) hpw).trans SU.2);have c8:=S3.1;have f8:w3.frozen? ⟨p,8,none⟩=false:=(hb3.frozen (p:=⟨p,8,none⟩) hpw).trans (HF2.o.box.f 8 rfl);have hst:=HF2.o.putFu (Yn hO3 hlo) (hb3.mono hlo) ⟨hb3.os,hb3.tape,hb3.output,hb3.size,fun b h1 _=>hb3.block b h1⟩ (fun b hb=>.inr (Zj hO3 hb).1);have HST:=Zd hst;clear hst;refine hK.out _ _ (fun _=>S3) (fun _=>?_);clear hK K;refine Walks.on 20 fun K hK=>?_
   go_simp;refine hK.out _ _ (fun _=>S3) (fun _=>?_);clear hK K;refine Walks.on 21 fun K hK=>?_
   go_simp;refine hK.out _ _ (fun _=>S3) (fun _=>?_);clear hK K;refine Zq 22 S3 ?_
  all_goals
   refine Walks.on 23 fun K hK=>?_
   rw[hv']at HST;go_simp;refine hK.out _ _ (fun h=>absurd h (by decide)) (fun _=>?_);refine Walks.done (by kernel_rfl) ?_ _;clear hK K;obtain⟨w4,h4⟩:=nmd (w3.setCell ⟨p,8,none⟩ (.slice vo L.length vc));rw[←h4]at HST ⊢;obtain⟨bb4,xs4,ev4,fv4,uv4,F4,_,_,_,hgo4⟩:=HST.o.next;have HG4:=Zd (HGO.o _ _ _ (Below.refl _ _) HST.o);have HGO4:Zi (∀w5 s5,FStep lo p gv sv (FO p bb4 xs4 ev4 fv4 uv4) w4 w5 s5→FStep lo p gv sv (FO p bb xs ev fv uv) W w5 s5):=fun w5 s5 h5=>HGO.o _ _ _ (Below.refl _ _) (hgo4 _ _ _ (Below.refl _ _) h5)
   have c8':=F4.box.c 8 rfl;obtain⟨uo4,uc4,hu4,_,_⟩:=F4.fuo.fresh;rw[hu4]at c8';have HF4:=Zd F4;clear hgo4 F4 h4 c8 f8 S3 SX
   by_cases h5:5<L.length
   ·have hd5:decide (5<(L.length:Int))=true:=by simp;omega
    have hA:=Pa lo w4 p bb4 gv sv xs4 ev4 fv4 uv4 _ HF4.o hn2 ht2;have HA:=Zd hA;clear hA;go_wp2_with fail;refine HA.o.mono ?_;rintro e w5 ⟨⟨v5,rfl⟩,hs5⟩;obtain⟨bb5,xs5,ev5,fv5,uv5,F5,_,_,_,hgo5⟩:=hs5.next;have c85:=F5.box.c 8 rfl;have f85:=F5.box.f 8 rfl;have hN5:=F5.putFu (v':=.slice none 0 0) (L:=[]) (Kind.Own.nil _ _ _) (Below.refl _ _) ⟨rfl,rfl,rfl,Nat.le_refl _,fun _ _ _=>rfl⟩ (fun g hg=>by simp[Value.ownBlock]at hg);have HN5:=Zd (HGO4.o _ _ (hgo5 _ _ _ (Below.refl _ _) hN5));obtain⟨uo5,uc5,hu5,_,_⟩:=F5.fuo.fresh;rw[hu5]at c85;clear hN5 hgo5 F5 hs5 HF4 HGO4 HG4;go_wp2
    first|refine bodyPost_ret (results_none rfl _ _ _) rfl ?_|refine bodyPost_end (results_none rfl _ _ _) rfl ?_
    refine⟨⟨_,rfl⟩,?_⟩;have hf:failT s2={ Wh s2 with fu:=[] }:=by rw[failT,if_pos (by rw[←HL.o];exact h5)]
    rw[HFT.o,hf];exact HN5.o
   ·have hd5:decide (5<(L.length:Int))=false:=by simp;omega
    go_wp2
    first|refine bodyPost_ret (results_none rfl _ _ _) rfl ?_|refine bodyPost_end (results_none rfl _ _ _) rfl ?_
    refine⟨⟨_,rfl⟩,?_⟩;have hf:failT s2={ s2 with fu:=L }:=by rw[failT,if_neg (by rw[←HL.o];exact h5),←HL.o]
    rw[HFT.o,hf];exact HG4.o
def Xf(s:PP)(node:Int):Int:=if 0≤node∧node<s.bx.length then(if(el s.bx node.toNat).length=0 then 5 else 0)else 2
theorem Ri(lo:Nat)(W:World)(p bb:Nat)(ao:Option Addr)(gc:Nat)(sv:Value)(xs:List Value)(ev fv uv:Value)(s:PP)(node:Int)(h:Flow lo W p bb (.slice ao s.bx.length gc) sv xs ev fv uv s) :
  Calls prog 236 #[.pointer (some ⟨p,0,none⟩),.int .i64 node] W fun e W'=>e=.returned (.int .i64 (Xf s node))∧W'=W:=by
 have c0:=h.box.c 0 rfl;have c5:=h.box.c 5 rfl
 by_cases hlow:node<0
 ·have hd:decide (node<0)=true:=by simpa using hlow
  have HR:Zi (Xf s node=2):=by rw[Zi,Xf,if_neg (by omega)]
  go_enter func236,ntmps236;go_wp2;go_ret;exact⟨by rw[HR.o];rfl,rfl⟩
 have hd:decide (node<0)=false:=by simpa using hlow
 obtain⟨k,rfl⟩:∃k:Nat,node=(k:Int):=⟨node.toNat,by omega⟩
 by_cases hhi:k<s.bx.length
 ·have hd2:decide ((s.bx.length:Int)≤(k:Int))=false:=by simp;omega
  have hki:(k:Int)<(s.bx.length:Int):=by omega
  have ck:=(h.head hhi).1;obtain⟨ho,hc,hsl,_,_⟩:=h.hnd.slice hhi;rw[hsl]at ck;have HR:Zi (Xf s (k:Int)=if(el s.bx k).length=0 then 5 else 0):=by rw[Zi,Xf,if_pos (by omega),Int.toNat_natCast]
  generalize(el s.bx k).length=q at ck HR
  by_cases hq:q=0
  ·subst hq;go_enter func236,ntmps236;go_wp2;go_ret;exact⟨by rw[HR.o];rfl,rfl⟩
  ·have hqd:((q:Int)==0)=false:=by simpa using hq
   rw[if_neg hq]at HR;clear hq;go_enter func236,ntmps236;go_wp2;go_ret;exact⟨by rw[HR.o];rfl,rfl⟩
 ·have hd2:decide ((s.bx.length:Int)≤(k:Int))=true:=by simp;omega
  have HR:Zi (Xf s (k:Int)=2):=by rw[Zi,Xf,if_neg (by omega)]
  go_enter func236,ntmps236;go_wp2;go_ret;exact⟨by rw[HR.o];rfl,rfl⟩
def Jn(s:PP)(node:Int):Int×PP :=
 if 0≤node∧node<s.bx.length then
  match el s.bx node.toNat with
  | []=>(5,s)
  |t::r=>(0,Kw s node.toNat t.1 t.2.1 t.2.2 r)
 else(2,s)
theorem fault_any(lo:Nat)(W:World)(p bb:Nat)(ao:Option Addr)(gc:Nat)(sv:Value)(xs:List Value)(ev fv uv:Value)(s:PP)(m1 m2 m3:Int)(h:Flow lo W p bb (.slice ao s.bx.length gc) sv xs ev fv uv s)(hn:s.bx.length≤10)(ht:Zs s.bx+s.fa.length≤100000)(hfu:s.fu.length≤100)(h0:0≤s.ti)(h1:s.ti≤1000000)(htr:∀k t1 t2 t3 r,el s.bx k=(t1,t2,t3)::r→0≤t3∧t3≤1000) :
  Calls prog 248 #[.pointer (some ⟨p,0,none⟩),.agg #[.int .i64 m1,.int .i64 m2,.int .i64 m3]] W fun e W'=>e=.returned (.int .i64 (Jn s m2).1)∧FStep lo p (.slice ao s.bx.length gc) sv (FO p bb xs ev fv uv) W W' (Jn s m2).2:=by
 have hb0:=Zk W (.cells #[.int .i64 m1,.int .i64 m2,.int .i64 m3] 127);have F0:=h.later hb0;have hp:=h.box.size;obtain⟨V,hV⟩:=nmd (W.alloc (.cells #[.int .i64 m1,.int .i64 m2,.int .i64 m3] 127));rw[←hV]at hb0 F0;have HF0:=Zd F0;have HB0:=Zd hb0;have HV:=Zd hV;have M0:=Bx.new (w:=W) [.int .i64 m1,.int .i64 m2,.int .i64 m3] 127 rfl;rw[←hV]at M0;have b1:=M0.c 1 rfl;have hfc:=Ri lo V p bb ao gc sv xs ev fv uv s m2 F0;have HFC:=Zd hfc;clear hV hb0 M0 hfc
 by_cases hin:0≤m2∧m2<s.bx.length
 ·obtain⟨k,rfl⟩:∃k:Nat,m2=(k:Int):=⟨m2.toNat,by omega⟩;have hk:k<s.bx.length:=by omega
  cases hbx:el s.bx k with
  |nil =>
   have HR:Zi (Jn s (k:Int)=(5,s)):=by rw[Zi,Jn,if_pos hin,Int.toNat_natCast,hbx]
   have h5:Xf s (k:Int)=5:=by rw[Xf,if_pos hin,Int.toNat_natCast,hbx];rfl
   rw[h5]at HFC;clear F0 hin h5;go_enter func248,ntmps248;go_wp2_with fail;rw[←HV.o];refine HFC.o.mono ?_;rintro e w2 ⟨rfl,hw2⟩;rw[hw2];clear hw2 w2
   go_wp2;go_ret;rw[HR.o];exact⟨rfl,FStep.same h HB0.o⟩
  |cons t r =>
   obtain⟨t1,t2,t3⟩:=t;have HR:Zi (Jn s (k:Int)=(0,Kw s k t1 t2 t3 r)):=by rw[Zi,Jn,if_pos hin,Int.toNat_natCast,hbx]
   have h5:Xf s (k:Int)=0:=by rw[Xf,if_pos hin,Int.toNat_natCast,hbx];rfl
   rw[h5]at HFC;have hbd:=htr k t1 t2 t3 r hbx;have hff:=Rl lo V p bb (.slice ao s.bx.length gc) sv xs ev fv uv s k t1 t2 t3 r F0 hk hbx hn ht hfu h0 h1 hbd.1 hbd.2;have HFF:=Zd hff;clear F0 hin h5 hff hbx;go_enter func248,ntmps248;go_wp2_with fail;rw[←HV.o];refine HFC.o.mono ?_;rintro e w2 ⟨rfl,hw2⟩;rw[hw2];clear hw2 w2
   go_wp2_with fail;refine HFF.o.mono ?_;rintro e w2 ⟨⟨v2,rfl⟩,hs⟩;have HS:=Zd hs;clear hs;go_wp2;go_ret;rw[HR.o];exact⟨rfl,FStep.start h HB0.o HS.o⟩
 ·have HR:Zi (Jn s m2=(2,s)):=by rw[Zi,Jn,if_neg hin]
  have h5:Xf s m2=2:=by rw[Xf,if_neg hin]
  rw[h5]at HFC;clear F0 hin h5;go_enter func248,ntmps248;go_wp2_with fail;rw[←HV.o];refine HFC.o.mono ?_;rintro e w2 ⟨rfl,hw2⟩;rw[hw2];clear hw2 w2
  go_wp2;go_ret;rw[HR.o];exact⟨rfl,FStep.same h HB0.o⟩
theorem Ff(lo:Nat)(W:World)(p bb gb goff gn gc:Nat)(sv:Value)(xs:List Value)(ev fv uv:Value)(s:PP)(k:Nat)(cp:Int)(h:Flow lo W p bb (.slice (some ⟨gb,goff,none⟩) gn gc) sv xs ev fv uv s)(hk:k<s.bx.length)(hg:k<gn)(hcp:W.cell? ⟨gb,goff+k*6+4,none⟩=some (.int .i64 cp))(h0:0≤cp)(h1:cp≤1000)(ht:Zs s.bx≤100000) :
  Calls prog 263 #[.pointer (some ⟨p,0,none⟩),.int .i64 (k:Int)] W fun e W'=>e=.returned (.int .i64 (cp-(el s.bx k).length))∧W'=W.drew:=by
 have c0:=h.box.c 0 rfl;have c5:=h.box.c 5 rfl;have ck:=(h.head hk).1;obtain⟨ho,hc,hsl,_,_⟩:=h.hnd.slice hk;rw[hsl]at ck;have hTe:=Kl hk;have hki:(k:Int)<(s.bx.length:Int):=by omega
 have hgi:(k:Int)<(gn:Int):=by omega
 have hw:IntKind.i64.wrap (cp-((el s.bx k).length:Int))=cp-((el s.bx k).length:Int):=by rw[IntKind.wrap_i64];omega
 generalize(el s.bx k).length=q at ck hw hTe
 have SU:=And.intro c0 (And.intro c5 (And.intro ck hcp));go_enter func263,ntmps263;go_wp2;refine Qq (zl:=[]) (S:=fun Y=>Y.cell? ⟨p,0,none⟩=some (.slice (some ⟨gb,goff,none⟩) gn gc)∧Y.cell? ⟨p,5,none⟩=some (.slice (some ⟨bb,0,none⟩) s.bx.length s.bx.length)∧Y.cell? ⟨bb,k,none⟩=some (.slice ho q hc)∧Y.cell? ⟨gb,goff+k*6+4,none⟩=some (.int .i64 cp)) (by kernel_rfl) SU (fun hH=>?_);refine Zq 0 hH ?_;refine Zq 1 hH ?_;refine Zq 2 hH ?_;refine Zq 3 hH ?_;refine Zq 4 hH ?_;refine Zq 5 hH ?_;refine Zq 6 hH ?_;refine Zq 7 hH ?_;refine Zq 8 hH ?_;refine Zq 9 hH ?_;refine Zq 10 hH ?_;refine Zq 11 hH ?_;refine Zq 12 hH ?_;refine Zq 13 hH ?_;refine Zq 14 hH ?_;refine Zq 15 hH ?_;refine Walks.on 16 fun K hK=>?_
 go_simp;refine hK.out _ _ (fun _=>hH) (fun _=>?_);clear hK K;refine Walks.on 17 fun K hK=>?_
 go_simp;refine hK.out _ _ (fun _=>hH) (fun _=>?_);clear hK K;refine Walks.on 18 fun K hK=>?_
 go_simp;refine hK.out _ _ (fun _=>hH) (fun _=>?_);clear hK K;refine Walks.done (by kernel_rfl) ?_ _;obtain⟨U,hU⟩:=nmd (W.drew);rw[←hU];clear SU c0 c5 ck hcp hH;go_wp2;go_ret;exact⟨rfl,hU⟩
def brk(gs:List PNode)(i:Nat):Bool:=(Qh gs.length).any (Kn gs i)
def Qa(gs:List PNode):Nat :=
 if gs.length<1∨10<gs.length then 1
 else if brk gs 0=true then 2 else if brk gs 1=true then 3 else if brk gs 2=true then 4 else if brk gs 3=true then 5 else if brk gs 4=true then 6
 else if(Zv gs).length<gs.length then 7 else 0
theorem Nw{gs:List PNode}(h:gs.length<1∨10<gs.length):Qa gs=1:=by rw[Qa,if_pos h]
theorem Xv{gs:List PNode}{i:Nat}(h:¬(gs.length<1∨10<gs.length))(hi:i<5)(hb:brk gs i=true)(hn:∀j,j<i→brk gs j=false):Qa gs=i+2:=by
 rw[Qa,if_neg h]
 rcases(show i=0∨i=1∨i=2∨i=3∨i=4 from by omega)with rfl|rfl|rfl|rfl|rfl
 ·rw[if_pos hb]
 ·simp[hb,hn 0 (by omega)]
 ·simp[hb,hn 0 (by omega),hn 1 (by omega)]
 ·simp[hb,hn 0 (by omega),hn 1 (by omega),hn 2 (by omega)]
 ·simp[hb,hn 0 (by omega),hn 1 (by omega),hn 2 (by omega),hn 3 (by omega)]
theorem Tt{gs:List PNode}(h:¬(gs.length<1∨10<gs.length))(hn:∀j,j<5→brk gs j=false):Qa gs=if(Zv gs).length<gs.length then 7 else 0:=by
 rw[Qa,if_neg h]
 simp[hn 0 (by omega),hn 1 (by omega),hn 2 (by omega),hn 3 (by omega),hn 4 (by omega)]
def Xg(ea:Nat→Addr)(gs:List PNode):Value :=
 if Qa gs=0 then .nilIface else if Qa gs=1 then errV (ea 0)else if Qa gs=7 then errV (ea 6)
 else .iface 241 (.agg #[.int .i64 (fidx (Kn gs (Qa gs-2)) (Qh gs.length)),errV (ea (Qa gs-1))])
theorem rulesV_at(ea:Nat→Addr)(p k:Nat)(hk:k<5):(Lt ea p)[k*2]? = some (errV (ea (k+1)))∧(Lt ea p)[k*2+1]? = some (.func (.func (fno k)) #[] #[.pointer (some ⟨p,0,none⟩)]):=by
 rcases(show k=0∨k=1∨k=2∨k=3∨k=4 from by omega)with rfl|rfl|rfl|rfl|rfl <;> exact⟨rfl,rfl⟩
theorem Bh(ao:Option Addr)(cap:Nat)(ts:List LNode)(ea:Nat→Addr)(w:World)(hC:Roomy ts cap)(hE:Errs w ea)(hz:DIn Ja w.1.size w ao ts) :
  Calls prog 165 #[.slice ao ts.length cap] w fun e w'=>e=.returned (Xg ea (ts.map Zz))∧Below w.1.size w w':=by
 have e0:=hE.c0;simp only[errV]at e0
 by_cases h1:ts.length<1
 ·have HV:Zi (Xg ea (ts.map Zz)=errV (ea 0)):=by rw[Zi,Xg,Nw (.inl (by simpa using h1))];rfl
  go_enter func165,ntmps165;go_wp2;go_ret;exact⟨congrArg Ending.returned HV.o.symm,Below.refl _ _⟩
 by_cases h2:10<ts.length
 ·have HV:Zi (Xg ea (ts.map Zz)=errV (ea 0)):=by rw[Zi,Xg,Nw (.inr (by simpa using h2))];rfl
  go_enter func165,ntmps165;go_wp2;go_ret;exact⟨congrArg Ending.returned HV.o.symm,Below.refl _ _⟩
 have h12:¬((ts.map Zz).length<1∨10<(ts.map Zz).length):=by rw[List.length_map];omega
 have HE:=Zd hE;have HZ:=Zd hz;have HN:=Zd h12;have hl1:=hC.len;clear hE hz e0 h12;go_enter func165,ntmps165;go_wp2_with fail;refine(rulesOf_any ao cap ts ea w HE.o HZ.o).mono ?_;rintro e w1 ⟨rb,p,rfl,hR1,hG1,hb1⟩;have R1:=Zd hR1;have G1:=Zd hG1;clear hR1 hG1;go_wp2
 go_loopw [18] (fun i wr=>∃k:Nat,i=.int .i64 (k:Int)∧k≤5∧Zi (∀j,j<k→brk (ts.map Zz) j=false)∧Below w1.1.size w1 wr) (fun i _=>5-(intOf i).toNat)
 case atStart=>exact⟨0,rfl,by omega,fun j hj=>by omega,Below.refl _ _⟩
 case round =>
  obtain⟨k,rfl,hk,hN,hB⟩:=hrel
  by_cases hlt:k<5
  ·obtain⟨r0,r1⟩:=rulesV_at ea p k hlt;have c0:=(R1.o.later hB).c (k*2) r0;have c1:=(R1.o.later hB).c (k*2+1) r1;have hk5:(k:Int)<5:=by omega
   simp only[errV]at c0;obtain⟨V,hV⟩:=nmd (wr.alloc (.cells #[.iface 227 (.pointer (some (ea (k+1)))),.func (.func (fno k)) #[] #[.pointer (some ⟨p,0,none⟩)]] 239));have hbV:Below wr.1.size wr V:=by rw[hV];exact Zk _ _
   have XV:Zi (Bx V wr.1.size [.iface 227 (.pointer (some (ea (k+1)))),.func (.func (fno k)) #[] #[.pointer (some ⟨p,0,none⟩)]]):=by rw[hV];exact Bx.new [.iface 227 (.pointer (some (ea (k+1)))),.func (.func (fno k)) #[] #[.pointer (some ⟨p,0,none⟩)]] _ rfl
   have GV:=Zd ((G1.o.later hB).later hbV);have hBV:Below w1.1.size w1 V:=hB.trans (hbV.mono hB.size);have HV:=Zd hV;have x0:=XV.o.c 0 rfl;have x1:=XV.o.c 1 rfl;clear hV hbV r0 r1;obtain⟨nd,hnd⟩:=nmd (fidx (Kn (ts.map Zz) k) (Qh ts.length));have hany:decide (0≤nd)=brk (ts.map Zz) k:=by rw[hnd,fidx_any,brk,List.length_map]
   have HND:=Zd hnd
   cases hbk:brk (ts.map Zz) k
   ·have hneg:¬(0≤nd):=by rw[hbk]at hany;simpa using hany
    have HBK:=Zd hbk;clear hany hnd hbk;go_wp2_with fail;rw[←HV.o]
    go_region_with (first
     |(go_at_call 202;refine(Vr ao cap ts.length _ hl1).mono ?_;rintro e w2 ⟨⟨go,qc,rfl,hF2⟩,hb2⟩;rw[Qd];have hbo:Below V.1.size V w2:=(Below.refl V.1.size V).drew.trans hb2;have y1:=(XV.o.later hbo).c 1 rfl;have F2:=Zd hF2.in;have G2:=Zd (GV.o.later hbo);clear hb2 hF2)
     |(go_at_call 95;refine(Lu k p ao cap ts go qc _ hC G2.o F2.o).mono ?_;rw[←HND.o];rintro e w3 ⟨rfl,hb3⟩;have hB3:Below w1.1.size w1 w3:=hBV.trans ((hbo.trans (hb3.mono hbo.size)).mono hBV.size);clear hb3))
    all_goals
     go_wp2;go_roundw
     case rel =>
      refine⟨k+1,by go_num,by omega,fun j hj=>?_,hB3⟩
      rcases Nat.lt_succ_iff_lt_or_eq.1 hj with h|rfl
      ·exact hN.o j h
      ·exact HBK.o
     case measure=>simp[intOf];omega
   ·have hpos:0≤nd:=by rw[hbk]at hany;simpa using hany
    have HF:Zi (Xg ea (ts.map Zz)=.iface 241 (.agg #[.int .i64 nd,errV (ea (k+1))])):=by
     have hc:=Xv HN.o hlt hbk hN.o;rw[Zi,Xg,hc,if_neg (by omega),if_neg (by omega),if_neg (by omega),Nat.add_sub_cancel,List.length_map,←hnd];rfl
    clear hany hnd hbk;go_wp2_with fail;rw[←HV.o]
    go_region_with (first
     |(go_at_call 202;refine(Vr ao cap ts.length _ hl1).mono ?_;rintro e w2 ⟨⟨go,qc,rfl,hF2⟩,hb2⟩;rw[Qd];have hbo:Below V.1.size V w2:=(Below.refl V.1.size V).drew.trans hb2;have y1:=(XV.o.later hbo).c 1 rfl;have F2:=Zd hF2.in;have G2:=Zd (GV.o.later hbo);clear hb2 hF2)
     |(go_at_call 95;refine(Lu k p ao cap ts go qc _ hC G2.o F2.o).mono ?_;rw[←HND.o];rintro e w3 ⟨rfl,hb3⟩;have hB3:Below w1.1.size w1 w3:=hBV.trans ((hbo.trans (hb3.mono hbo.size)).mono hBV.size);have z0:=((XV.o.later hbo).later hb3).c 0 rfl;clear hb3))
    all_goals
     go_wp2;go_ret;exact⟨congrArg Ending.returned HF.o.symm,hb1.trans (hB3.mono hb1.size)⟩
  ·obtain rfl:k=5:=by omega
   have hBw:Below w.1.size w wr:=hb1.trans (hB.mono hb1.size);have hc:=Tt HN.o hN.o;have HC:=Zd hc;clear hc;go_wp2_with fail;refine(Yo ao cap ts wr hl1 hC.fit (HZ.o.later Zf hBw)).mono ?_;rintro e w2 ⟨⟨go,qc,rfl,_⟩,hb2⟩;have hB2:=hBw.trans (hb2.mono hBw.size);have e6:=(HE.o.later hB2).c6;simp only[errV]at e6;clear hb2
   by_cases ho:(Zv (ts.map Zz)).length<ts.length
   ·have HF:Zi (Xg ea (ts.map Zz)=errV (ea 6)):=by
     have hc:Qa (ts.map Zz)=7:=HC.o.trans (if_pos (by rw[List.length_map];exact ho));rw[Zi,Xg,hc];rfl
    have ho':decide (((Zv (ts.map Zz)).length:Int)<(ts.length:Int))=true:=decide_eq_true (by omega);go_wp2;go_ret;exact⟨congrArg Ending.returned HF.o.symm,hB2⟩
   ·have HF:Zi (Xg ea (ts.map Zz)=.nilIface):=by
     have hc:Qa (ts.map Zz)=0:=HC.o.trans (if_neg (by rw[List.length_map];exact ho));rw[Zi,Xg,hc];rfl
    have ho':decide (((Zv (ts.map Zz)).length:Int)<(ts.length:Int))=false:=decide_eq_false (by omega);go_wp2;go_ret;exact⟨congrArg Ending.returned HF.o.symm,hB2⟩
theorem Ch{ea:Nat→Addr}{gs:List PNode}:(Xg ea gs=.nilIface)↔Qa gs=0:=by
 unfold Xg
 split
 ·simp[*]
 ·split
  ·simp[*]
  ·split
   ·simp[*]
   ·simp[*]
theorem Ge(ao:Option Addr)(cap:Nat)(ts:List LNode)(ea:Nat→Addr)(w:World)(hC:Roomy ts cap)(hE:Errs w ea)(hz:DIn Ja w.1.size w ao ts) :
  Calls prog 161 #[.slice ao ts.length cap] w fun e w'=>e=.returned (.bool (decide (Qa (ts.map Zz)=0)))∧Below w.1.size w w':=by
 have hcon:=Bh ao cap ts ea w hC hE hz;clear hE hz hC
 by_cases h0:Qa (ts.map Zz)=0
 ·rw[Ch.2 h0]at hcon;rw[decide_eq_true h0];go_enter func161,ntmps161;go_wp2_with (go_at_call 165;refine hcon.mono ?_;rintro e w1 ⟨rfl,hb1⟩);go_ret;exact⟨rfl,hb1⟩
 ·have hn:∃t v,Xg ea (ts.map Zz)=.iface t v:=by
   unfold Xg
   rw[if_neg h0]
   split
   ·exact⟨_,_,rfl⟩
   ·split
    ·exact⟨_,_,rfl⟩
    ·exact⟨_,_,rfl⟩
  obtain⟨t,v,htv⟩:=hn;rw[htv]at hcon;rw[decide_eq_false h0];clear htv h0;go_enter func161,ntmps161;go_wp2_with (go_at_call 165;refine hcon.mono ?_;rintro e w1 ⟨rfl,hb1⟩);go_ret;exact⟨rfl,hb1⟩
end Go.Proofs.YtdacedbfnlkghaaGreatDoor