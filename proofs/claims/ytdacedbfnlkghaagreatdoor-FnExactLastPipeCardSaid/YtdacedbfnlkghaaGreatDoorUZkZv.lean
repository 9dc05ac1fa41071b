/- A token is lost. Scalars of a flow; what an abort loses, plainly. All tokens are lost. Draining and aborting. Ticks: the small functions over them, both sides. Those Qg a limit, and where one gives up: both sides. A tick. A token is tried once more; two that may come up. No conditions but those written. -/
import Derived.Test.YtdacedbfnlkghaaGreatDoorUTphZj
import Derived.Deep.LoopGhost
namespace Go.Proofs.YtdacedbfnlkghaaGreatDoor
set_option maxHeartbeats 4000000
set_option maxRecDepth 100000
open Go.RowKit Go.Proofs.Tryz
theorem lose_any(lo:Nat)(W:World)(p bb:Nat)(gv sv:Value)(xs:List Value)(ev fv uv:Value)(s:PP)(k:Nat)(y:Int)(t1 t2 t3:Int)(r:List (Int×Int×Int))(h:Flow lo W p bb gv sv xs ev fv uv s)(hk:k<s.bx.length)(hr:el s.bx k=(t1,t2,t3)::r)(ht:Zs s.bx≤100000)(hf:s.fa.length≤1000000) :
  Calls prog 259 #[.pointer (some ⟨p,0,none⟩),.int .i64 (k:Int),.int .i64 y] W fun e W'=>(∃v,e=.returned v)∧FStep lo p gv sv (FO p bb xs ev fv uv) W W' { s with bx:=s.bx.set k r,fa:=s.fa++[(t1,(k:Int),t2,y)] }:=by
 have hT:=take_any lo W p bb gv sv xs ev fv uv s k t1 t2 t3 r h hk hr ht;have HT:=Zd hT;clear hT;go_enter func259,ntmps259;go_wp2_with fail;refine HT.o.mono ?_;rintro e w1 ⟨rfl,hst⟩;obtain⟨bb',xs',ev',fv',uv',F1,_,_,_,hgo⟩:=hst.next;have HGO:=Zd hgo;clear hst hgo;have hp:=F1.box.size;have hb0:=Zk w1 (.cells #[.int .i64 t1,.int .i64 t2,.int .i64 t3] 163);have T0:=Bx.new (w:=w1) [.int .i64 t1,.int .i64 t2,.int .i64 t3] 163 rfl;have F0:=F1.later hb0;obtain⟨V,hV⟩:=nmd (w1.alloc (.cells #[.int .i64 t1,.int .i64 t2,.int .i64 t3] 163));rw[←hV]at hb0 F0 T0;have HV:=Zd hV;obtain⟨fo,fc,hfv,hfn,_⟩:=F0.fao.fresh;have c7:=F0.box.c 7 rfl;rw[hfv]at c7;have t0:=T0.c 0 rfl;have t1':=T0.c 1 rfl;have HF0:=Zd F0;have HB0:=Zd hb0;have hVs:w1.1.size<V.1.size:=by rw[hV];simp
 clear hV hb0 F0;go_wp2;rw[←HV.o];refine Qq (zl:=[18]) (S:=fun Y=>Y.cell? ⟨p,7,none⟩=some (.slice fo s.fa.length fc)∧Y.cell? ⟨w1.1.size,0,none⟩=some (.int .i64 t1)∧Y.cell? ⟨w1.1.size,1,none⟩=some (.int .i64 t2)) (by kernel_rfl) ⟨c7,t0,t1'⟩ (fun hH=>?_);refine Zq 0 hH ?_;refine Zq 1 hH ?_;refine Zq 2 hH ?_;refine Zq 3 hH ?_;refine Zq 4 hH ?_;refine Zq 5 hH ?_;refine Zq 6 hH ?_;refine Zq 7 hH ?_;refine Zq 8 hH ?_;refine Zq 9 hH ?_;refine Zq 10 hH ?_;refine Zq 11 hH ?_;refine Zq 12 hH ?_;refine Walks.on 13 fun K hK=>?_
 go_simp;obtain⟨U,hU⟩:=nmd ((V.alloc (.cells #[.int .i64 t1,.int .i64 (k:Int),.int .i64 t2,.int .i64 y] 141)).drew);rw[←hU];have hbU:Below V.1.size V U:=by rw[hU];exact(Zk V _).drew
 have hN:kLo.In U.1.size U (some ⟨V.1.size,0,none⟩) [(t1,(k:Int),t2,y)]:=by
  have hx:Bx U V.1.size [.int .i64 t1,.int .i64 (k:Int),.int .i64 t2,.int .i64 y]:=by rw[hU];exact(Bx.new (w:=V) [.int .i64 t1,.int .i64 (k:Int),.int .i64 t2,.int .i64 y] 141 rfl).drew
  exact kLo_one hx.size (hx.c 0 rfl) (hx.c 1 rfl) (hx.c 2 rfl) (hx.c 3 rfl)
 have FU:=HF0.o.later hbU;have hpV:p<V.1.size:=by omega
 have hUs:=hbU.size;refine hK.out _ _ (fun _=>⟨(hbU.cell (p:=⟨p,7,none⟩) hpV).trans c7,(hbU.cell (p:=⟨w1.1.size,0,none⟩) hVs).trans t0,(hbU.cell (p:=⟨w1.1.size,1,none⟩) hVs).trans t1'⟩) (fun hU0=>?_);clear hK K hU;have U0:=hU0 rfl;refine Walks.on 14 fun K hK=>?_
 refine Je kLo_ok U (by rfl) (.tmp 15) (.tmp 23) (by rfl) lo (.slice fo s.fa.length fc) s.fa (by rfl) (by rw[←hfv];exact FU.fao) (by have:=FU.lop;omega) (some ⟨V.1.size,0,none⟩) [(t1,(k:Int),t2,y)] 1 1 (by rfl) rfl (by simp) _ hN (by simp;omega) ?_;intro v' w2 hO2 hB2 hG2 hw2;obtain⟨L,hL⟩:=nmd (s.fa++[(t1,(k:Int),t2,y)]);rw[←hL]at hO2;have HL:=Zd hL;clear hL;obtain⟨vo,vc,hv',_,_⟩:=hO2.fresh;rw[←hfv]at hG2 hw2;have kp:w2.heap[p]? = U.heap[p]? := hG2.block p (by omega) (fun e=>FU.pf e.symm);have kt:w2.heap[w1.1.size]? = U.heap[w1.1.size]? := hG2.block _ (by omega) (fun e=>by have:=(Zj F1.fao e.symm).2;omega);have c2:w2.cell? ⟨p,7,none⟩=some (.slice fo s.fa.length fc):=(World.cell?_of_block (a:=⟨p,7,none⟩) kp).trans U0.1;have f2:w2.frozen? ⟨p,7,none⟩=false:=(World.frozen?_of_block (a:=⟨p,7,none⟩) kp).trans (FU.box.f 7 rfl);have S2:=And.intro c2 (And.intro ((World.cell?_of_block (a:=⟨w1.1.size,0,none⟩) kt).trans U0.2.1) ((World.cell?_of_block (a:=⟨w1.1.size,1,none⟩) kt).trans U0.2.2));have hstep:=FU.putFa hO2 hB2 hG2 hw2;have HST:=Zd hstep;have HBV:=Zd (HB0.o.trans (hbU.mono HB0.o.size));clear hstep;refine hK.out _ _ (fun _=>S2) (fun _=>?_);clear hK K hU0;refine Walks.on 15 fun K hK=>?_
 go_simp;refine hK.out _ _ (fun _=>S2) (fun _=>?_);clear hK K;refine Walks.on 16 fun K hK=>?_
 go_simp;refine hK.out _ _ (fun _=>S2) (fun _=>?_);clear hK K;refine Zq 17 S2 ?_;refine Walks.on 18 fun K hK=>?_
 rw[hv']at HST;go_simp;refine hK.out _ _ (fun h=>absurd h (by decide)) (fun _=>?_);refine Walks.done (by kernel_rfl) ?_ _;clear hK K;go_wp2
 first|refine bodyPost_ret (results_none rfl _ _ _) rfl ?_|refine bodyPost_end (results_none rfl _ _ _) rfl ?_
 refine⟨⟨_,rfl⟩,?_⟩;rw[←HL.o];exact HGO.o _ _ _ HBV.o HST.o
theorem Flow.putTi{lo:Nat}{U:World}{p bb:Nat}{gv sv:Value}{xs:List Value}{ev fv uv:Value}{s:PP}(h:Flow lo U p bb gv sv xs ev fv uv s)(x:Int) :
  FStep lo p gv sv (FO p bb xs ev fv uv) U (U.setCell ⟨p,2,none⟩ (.int .i64 x)) { s with ti:=x }:=by
 have hkp:∀b,b≠p→(U.setCell ⟨p,2,none⟩ (.int .i64 x)).heap[b]? = U.heap[b]? := fun b h2=>Below.heap_setCell _ _ _ _ h2
 exact⟨FO p bb xs ev fv uv,⟨bb,xs,ev,fv,uv,⟨h.box.set 2 _,h.hnd.keep (hkp bb (fun e=>h.pbb e.symm)) (fun j hj b hb=>hkp b (fun e=>h.px j hj (by rw[←e];exact hb))),Za h.emo fun b hb=>hkp b (fun e=>h.pe (by rw[←e];exact hb)),Za h.fao fun b hb=>hkp b (fun e=>h.pf (by rw[←e];exact hb)),Za h.fuo fun b hb=>hkp b (fun e=>h.pu (by rw[←e];exact hb)),h.lop,h.lob,h.pbb,h.px,h.pe,h.pf,h.pu⟩,fun b hb=>hb⟩,fun b hb=>.inl hb,(Below.refl _ _).setCell (p:=⟨p,2,none⟩) h.lop _,fun b _ hO=>hkp b (fun e=>hO (.inl e))⟩
theorem Flow.putIt{lo:Nat}{U:World}{p bb:Nat}{gv sv:Value}{xs:List Value}{ev fv uv:Value}{s:PP}(h:Flow lo U p bb gv sv xs ev fv uv s)(x:Int) :
  FStep lo p gv sv (FO p bb xs ev fv uv) U (U.setCell ⟨p,3,none⟩ (.int .i64 x)) { s with it:=x }:=by
 have hkp:∀b,b≠p→(U.setCell ⟨p,3,none⟩ (.int .i64 x)).heap[b]? = U.heap[b]? := fun b h2=>Below.heap_setCell _ _ _ _ h2
 exact⟨FO p bb xs ev fv uv,⟨bb,xs,ev,fv,uv,⟨h.box.set 3 _,h.hnd.keep (hkp bb (fun e=>h.pbb e.symm)) (fun j hj b hb=>hkp b (fun e=>h.px j hj (by rw[←e];exact hb))),Za h.emo fun b hb=>hkp b (fun e=>h.pe (by rw[←e];exact hb)),Za h.fao fun b hb=>hkp b (fun e=>h.pf (by rw[←e];exact hb)),Za h.fuo fun b hb=>hkp b (fun e=>h.pu (by rw[←e];exact hb)),h.lop,h.lob,h.pbb,h.px,h.pe,h.pf,h.pu⟩,fun b hb=>hb⟩,fun b hb=>.inl hb,(Below.refl _ _).setCell (p:=⟨p,3,none⟩) h.lop _,fun b _ hO=>hkp b (fun e=>hO (.inl e))⟩
theorem Flow.putCl{lo:Nat}{U:World}{p bb:Nat}{gv sv:Value}{xs:List Value}{ev fv uv:Value}{s:PP}(h:Flow lo U p bb gv sv xs ev fv uv s)(x:Bool) :
  FStep lo p gv sv (FO p bb xs ev fv uv) U (U.setCell ⟨p,4,none⟩ (.bool x)) { s with cl:=x }:=by
 have hkp:∀b,b≠p→(U.setCell ⟨p,4,none⟩ (.bool x)).heap[b]? = U.heap[b]? := fun b h2=>Below.heap_setCell _ _ _ _ h2
 exact⟨FO p bb xs ev fv uv,⟨bb,xs,ev,fv,uv,⟨h.box.set 4 _,h.hnd.keep (hkp bb (fun e=>h.pbb e.symm)) (fun j hj b hb=>hkp b (fun e=>h.px j hj (by rw[←e];exact hb))),Za h.emo fun b hb=>hkp b (fun e=>h.pe (by rw[←e];exact hb)),Za h.fao fun b hb=>hkp b (fun e=>h.pf (by rw[←e];exact hb)),Za h.fuo fun b hb=>hkp b (fun e=>h.pu (by rw[←e];exact hb)),h.lop,h.lob,h.pbb,h.px,h.pe,h.pf,h.pu⟩,fun b hb=>hb⟩,fun b hb=>.inl hb,(Below.refl _ _).setCell (p:=⟨p,4,none⟩) h.lop _,fun b _ hO=>hkp b (fun e=>hO (.inl e))⟩
def Py(k:Nat)(l:List (Int×Int×Int)):List (Int×Int×Int×Int):=l.map fun t=>(t.1,(k:Int),t.2.1,2)
def Jc(bx:List (List (Int×Int×Int))):Nat→List (Int×Int×Int×Int)
 |0=>[]
 |j+1=>Jc bx j++Py j (el bx j)
def clr(bx:List (List (Int×Int×Int)))(j:Nat):List (List (Int×Int×Int)):=List.replicate j []++bx.drop j
theorem clr_zero(bx:List (List (Int×Int×Int))):clr bx 0=bx:=by simp[clr]
theorem Dz{bx:List (List (Int×Int×Int))}{j:Nat}(h:j≤bx.length):(clr bx j).length=bx.length:=by simp[clr];omega
theorem clr_el{bx:List (List (Int×Int×Int))}{j:Nat}(_:j<bx.length):el (clr bx j) j=el bx j:=by
 simp only[clr,el];rw[List.getElem?_append_right (by simp),List.length_replicate,Nat.sub_self,List.getElem?_drop,Nat.add_zero]
theorem clr_set{bx:List (List (Int×Int×Int))}{j:Nat}(h:j<bx.length):(clr bx j).set j []=clr bx (j+1):=by
 simp only[clr];rw[List.set_append_right _ _ (by simp),List.length_replicate,Nat.sub_self,List.drop_eq_getElem_cons h,List.set_cons_zero,List.replicate_succ',List.append_assoc]
 rfl
theorem set_el{bx:List (List (Int×Int×Int))}{j:Nat}(h:j<bx.length):bx.set j (el bx j)=bx:=by
 refine List.ext_getElem (by simp) fun i h1 h2=>?_
 rw[List.getElem_set]
 split
 ·rename_i e;subst e;exact(Km h).symm▸rfl
 ·rfl
theorem Hl(bx:List (List (Int×Int×Int)))(j:Nat):Zs (clr bx j)+(Jc bx j).length=Zs bx∨bx.length<j:=by
 induction j with
 |zero=>left;simp[clr_zero,Jc]
 |succ j ih =>
  by_cases hj:j<bx.length
  ·left
   have ih:=ih.resolve_right (by omega);have h:=Jb (ls:=clr bx j) (k:=j) [] (by rw[Dz (by omega)];exact hj);rw[clr_set hj,clr_el hj]at h;simp only[Jc,List.length_append,Py,List.length_map,List.length_nil]at h ⊢
   omega
  ·right;omega
theorem Pa(lo:Nat)(W:World)(p bb:Nat)(gv sv:Value)(xs:List Value)(ev fv uv:Value)(s:PP)(h:Flow lo W p bb gv sv xs ev fv uv s)(hn:s.bx.length≤10)(ht:Zs s.bx+s.fa.length≤100000) :
  Calls prog 261 #[.pointer (some ⟨p,0,none⟩)] W fun e W'=>(∃v,e=.returned v)∧FStep lo p gv sv (FO p bb xs ev fv uv) W W' { s with cl:=true,bx:=clr s.bx s.bx.length,fa:=s.fa++Jc s.bx s.bx.length }:=by
 have c4:=h.box.c 4 rfl;have f4:=h.box.f 4 rfl;have c5:=h.box.c 5 rfl;have hst:=h.putCl true;have HST:=Zd hst;clear hst;go_enter func261,ntmps261;go_wp2;clear c4 f4 c5
 go_loopw [13] (fun i wr=>∃j:Nat,j≤s.bx.length∧i=.int .i64 (j:Int)∧Zi (FStep lo p gv sv (FO p bb xs ev fv uv) W wr { s with cl:=true,bx:=clr s.bx j,fa:=s.fa++Jc s.bx j })) (fun i _=>s.bx.length-(intOf i).toNat)
 case atStart =>
  refine⟨0,Nat.zero_le _,rfl,?_⟩;have e:({ s with cl:=true,bx:=clr s.bx 0,fa:=s.fa++Jc s.bx 0 }:PP)={ s with cl:=true }:=by rw[clr_zero];simp[Jc]
  rw[e];exact HST
 case round =>
  obtain⟨j,hj,rfl,hS⟩:=hrel
  by_cases hlt:j<s.bx.length
  ·have hji:(j:Int)<(s.bx.length:Int):=by omega
   have hcj:=Dz (bx:=s.bx) (j:=j) (by omega);have hT0:=(Hl s.bx j).resolve_right (by omega);have HS0:Zi (FStep lo p gv sv (FO p bb xs ev fv uv) W wr { s with cl:=true,bx:=(clr s.bx j).set j (el s.bx j),fa:=s.fa++Jc s.bx j }):=by
    have e:=set_el (bx:=clr s.bx j) (j:=j) (by rw[hcj];exact hlt);rw[clr_el hlt]at e;rw[e];exact hS
   obtain⟨wo,hwo⟩:=nmd (wr);clear hS HST;rw[←hwo]at HS0 ⊢;clear hwo wr;go_wp2
   go_loopg [28] (el s.bx j).length (fun m _ wr=>∃(l:List (Int×Int×Int))(F:List (Int×Int×Int×Int)),m=l.length∧Zi (F++Py j l=s.fa++Jc s.bx (j+1)∧Zs ((clr s.bx j).set j l)+F.length≤100000)∧Zi (FStep lo p gv sv (FO p bb xs ev fv uv) W wr { s with cl:=true,bx:=(clr s.bx j).set j l,fa:=F }))
   case atStart =>
    refine⟨_,_,rfl,⟨by rw[List.append_assoc];rfl,?_⟩,HS0⟩;have e:=set_el (bx:=clr s.bx j) (j:=j) (by rw[hcj];exact hlt);rw[clr_el hlt]at e;rw[e,List.length_append];omega
   case round =>
    obtain⟨l,F,hm,hF,hS⟩:=hrel;obtain⟨bb',xs',ev',fv',uv',F1,_,_,_,hgo⟩:=hS.o.next;have HGO:=Zd hgo;have hl':((clr s.bx j).set j l).length=s.bx.length:=by rw[List.length_set,hcj]
    have he:el ((clr s.bx j).set j l) j=l:=Zh (by rw[hcj];exact hlt);have hk':j<((clr s.bx j).set j l).length:=by rw[hl'];exact hlt
    have c5:=F1.box.c 5 rfl;have ck:=(F1.head hk').1;obtain⟨ho,hc,hsl,_,_⟩:=F1.hnd.slice hk';dsimp only at c5 hsl;rw[hl']at c5;rw[hsl,he]at ck;have HF1:=Zd F1;have HE:=Zd he;have HK:=Zd hk';clear hgo F1 hsl he hk' hl'
    cases l with
    |nil =>
     have HE2:Zi (FStep lo p gv sv (FO p bb xs ev fv uv) W wr { s with cl:=true,bx:=clr s.bx (j+1),fa:=s.fa++Jc s.bx (j+1) }):=by
      have h1:=hF.o.1;rw[show Py j []=[]from rfl,List.append_nil]at h1;rw[←clr_set hlt,←h1];exact hS
     clear hS hF hm HF1 HGO HE HK;go_wp2;go_roundw
     case rel=>exact⟨j+1,by omega,by go_num,HE2⟩
     case measure=>simp[intOf];omega
    |cons t r =>
     obtain⟨t1,t2,t3⟩:=t;have hL:=lose_any lo wr p bb' gv sv xs' ev' fv' uv' _ j 2 t1 t2 t3 r HF1.o HK.o HE.o (by have:=hF.o.2;dsimp only;omega) (by have:=hF.o.2;dsimp only;omega);have HL:=Zd hL;have hts:=Jb (ls:=(clr s.bx j).set j ((t1,t2,t3)::r)) (k:=j) r HK.o;rw[HE.o,List.set_set,List.length_cons]at hts;have HN:Zi (∀w2,FStep lo p gv sv (FO p bb' xs' ev' fv' uv') wr w2 { s with cl:=true,bx:=((clr s.bx j).set j ((t1,t2,t3)::r)).set j r,fa:=F++[(t1,(j:Int),t2,2)] }→Zi (FStep lo p gv sv (FO p bb xs ev fv uv) W w2 { s with cl:=true,bx:=(clr s.bx j).set j r,fa:=F++[(t1,(j:Int),t2,2)] })):=fun w2 h2=>by
      rw[List.set_set]at h2;exact HGO.o _ _ _ (Below.refl _ _) h2
     have HF2:Zi ((F++[(t1,(j:Int),t2,2)])++Py j r=s.fa++Jc s.bx (j+1)∧Zs ((clr s.bx j).set j r)+(F++[(t1,(j:Int),t2,2)]).length≤100000):=by
      refine⟨?_,?_⟩
      ·rw[List.append_assoc,←hF.o.1];rfl
      ·have:=hF.o.2;rw[List.length_append,List.length_singleton];omega
     clear hL hts hS hF HF1 HGO HE HK;go_wp2_with fail;refine HL.o.mono ?_;rintro e w2 ⟨⟨v2,rfl⟩,h2⟩;have H2:=HN.o w2 h2;clear h2 HN HL;go_wp2;go_roundg r.length
     case measure=>rw[hm];simp
     case rel=>exact⟨r,_,rfl,HF2,H2⟩
  ·obtain rfl:j=s.bx.length:=by omega
   go_wp2
   first|refine bodyPost_ret (results_none rfl _ _ _) rfl ?_|refine bodyPost_end (results_none rfl _ _ _) rfl ?_
   exact⟨⟨_,rfl⟩,hS.o⟩
theorem FStep.refl{lo:Nat}{W:World}{p bb:Nat}{gv sv:Value}{xs:List Value}{ev fv uv:Value}{s:PP}(h:Flow lo W p bb gv sv xs ev fv uv s):FStep lo p gv sv (FO p bb xs ev fv uv) W W s :=
 ⟨_,⟨bb,xs,ev,fv,uv,h,fun _ hb=>hb⟩,fun _ hb=>.inl hb,Below.refl _ _,fun _ _ _=>rfl⟩
theorem FStep.start{lo:Nat}{W V W2:World}{p bb:Nat}{gv sv:Value}{xs:List Value}{ev fv uv:Value}{s s2:PP}(h:Flow lo W p bb gv sv xs ev fv uv s)(hb:Below W.1.size W V)(h2:FStep lo p gv sv (FO p bb xs ev fv uv) V W2 s2):FStep lo p gv sv (FO p bb xs ev fv uv) W W2 s2:=by
 obtain⟨O2,f2,hs2,hb2,hk2⟩:=h2;have hlo:lo≤W.1.size:=Nat.le_of_lt (Nat.lt_of_le_of_lt h.lop h.box.size);have hz:=hb.size;refine⟨O2,f2,fun b h1=>?_,(hb.mono hlo).trans hb2,fun b h1 h3=>(hk2 b (by omega) h3).trans (hb.block b h1)⟩
 rcases hs2 b h1 with h4|h4
 ·exact .inl h4
 ·exact .inr (by omega)
theorem FStep.same{lo:Nat}{W V:World}{p bb:Nat}{gv sv:Value}{xs:List Value}{ev fv uv:Value}{s:PP}(h:Flow lo W p bb gv sv xs ev fv uv s)(hb:Below W.1.size W V):FStep lo p gv sv (FO p bb xs ev fv uv) W V s:=FStep.start h hb (FStep.refl (h.later hb))
def Kr(s:PP):Int×PP:=if s.cl then(3,s)else(0,{ s with cl:=true })
theorem drain_any(lo:Nat)(W:World)(p bb:Nat)(gv sv:Value)(xs:List Value)(ev fv uv:Value)(s:PP)(m1 m2 m3:Int)(h:Flow lo W p bb gv sv xs ev fv uv s) :
  Calls prog 250 #[.pointer (some ⟨p,0,none⟩),.agg #[.int .i64 m1,.int .i64 m2,.int .i64 m3]] W fun e W'=>e=.returned (.int .i64 (Kr s).1)∧FStep lo p gv sv (FO p bb xs ev fv uv) W W' (Kr s).2:=by
 have hb0:=Zk W (.cells #[.int .i64 m1,.int .i64 m2,.int .i64 m3] 127);have F0:=h.later hb0;have hp:=h.box.size;obtain⟨V,hV⟩:=nmd (W.alloc (.cells #[.int .i64 m1,.int .i64 m2,.int .i64 m3] 127));rw[←hV]at hb0 F0;have HF0:=Zd F0;have HB0:=Zd hb0;have HV:=Zd hV;have c4:=h.box.c 4 rfl;have f4:=h.box.f 4 rfl;clear hV F0 hb0
 cases hc:s.cl
 ·have HR:Zi (Kr s=(0,{ s with cl:=true })):=by rw[Zi,Kr,hc];rfl
  rw[hc]at c4;clear HF0 HB0 HV;go_enter func250,ntmps250;go_wp2;go_ret;rw[HR.o];exact⟨rfl,(h.putCl true).later (Zk _ _) (Nat.le_of_lt (Nat.lt_of_le_of_lt h.lop hp))⟩
 ·have HR:Zi (Kr s=(3,s)):=by rw[Zi,Kr,hc];rfl
  rw[hc]at c4;go_enter func250,ntmps250;go_wp2;go_ret;rw[HR.o];refine⟨rfl,?_⟩;have h2:=FStep.same h HB0.o;rw[HV.o]at h2;exact h2
def Wh(s:PP):PP:={ s with cl:=true,bx:=clr s.bx s.bx.length,fa:=s.fa++Jc s.bx s.bx.length }
def Kz(s:PP):Int×PP:=if s.cl=true∧Zs s.bx=0 then(3,s)else(0,Wh s)
theorem abort_any(lo:Nat)(W:World)(p bb:Nat)(gv sv:Value)(xs:List Value)(ev fv uv:Value)(s:PP)(m1 m2 m3:Int)(h:Flow lo W p bb gv sv xs ev fv uv s)(hn:s.bx.length≤10)(ht:Zs s.bx+s.fa.length≤100000) :
  Calls prog 251 #[.pointer (some ⟨p,0,none⟩),.agg #[.int .i64 m1,.int .i64 m2,.int .i64 m3]] W fun e W'=>e=.returned (.int .i64 (Kz s).1)∧FStep lo p gv sv (FO p bb xs ev fv uv) W W' (Kz s).2:=by
 have hb0:=Zk W (.cells #[.int .i64 m1,.int .i64 m2,.int .i64 m3] 127);have F0:=h.later hb0;have hp:=h.box.size;obtain⟨V,hV⟩:=nmd (W.alloc (.cells #[.int .i64 m1,.int .i64 m2,.int .i64 m3] 127));rw[←hV]at hb0 F0;have HF0:=Zd F0;have HB0:=Zd hb0;have HV:=Zd hV;have c4:=F0.box.c 4 rfl;have c9:=F0.box.c 9 rfl;have c4w:=h.box.c 4 rfl;have hA:=Pa lo V p bb gv sv xs ev fv uv s F0 hn ht;have HA:=Zd hA;clear hV F0 hb0 hA
 cases hc:s.cl
 ·have HR:Zi (Kz s=(0,Wh s)):=by rw[Zi,Kz,if_neg (by simp[hc])]
  rw[hc]at c4 c4w;go_enter func251,ntmps251;go_wp2_with fail;rw[←HV.o];refine HA.o.mono ?_;rintro e w2 ⟨⟨v2,rfl⟩,h2⟩;have H2:=Zd h2;clear h2;go_wp2;go_ret;rw[HR.o];exact⟨rfl,FStep.start h HB0.o H2.o⟩
 ·rw[hc]at c4 c4w
  by_cases h0:Zs s.bx=0
  ·have HR:Zi (Kz s=(3,s)):=by rw[Zi,Kz,if_pos ⟨hc,h0⟩]
   rw[h0]at c9;go_enter func251,ntmps251;go_wp2_with fail;rw[←HV.o];refine(Ht p 9 _ V c9).mono ?_;rintro e w2 ⟨rfl,hw2⟩;rw[hw2];clear hw2 w2
   go_wp2;go_ret;rw[HR.o];exact⟨rfl,FStep.same h HB0.o⟩
  ·have HR:Zi (Kz s=(0,Wh s)):=by rw[Zi,Kz,if_neg (fun hh=>h0 hh.2)]
   have hne:((Zs s.bx:Int)==0)=false:=by simpa using h0
   go_enter func251,ntmps251;go_wp2_with fail;rw[←HV.o];refine(Ht p 9 _ V c9).mono ?_;rintro e w2 ⟨rfl,hw2⟩;rw[hw2];clear hw2 w2
   go_wp2_with fail;refine HA.o.mono ?_;rintro e w2 ⟨⟨v2,rfl⟩,h2⟩;have H2:=Zd h2;clear h2;go_wp2;go_ret;rw[HR.o];exact⟨rfl,FStep.start h HB0.o H2.o⟩
def tickB(n:Int):Bool:=decide (0≤n) && decide (n≤1000000)
def Qg(zs:List Int)(lim:Int):List Int:=zs.filter fun t=>decide (lim<t)
theorem Wg(zs:List Int)(lim:Int):(Qg zs lim).length≤zs.length:=List.length_filter_le _ _
theorem above_in{zs:List Int}{lim:Int}{k:Nat}(hk:k<zs.length)(h:lim<el zs k):Qg (zs.take (k+1)) lim=Qg (zs.take k) lim++[el zs k]:=by
 rw[Zy hk,Qg,Qg,List.filter_append];simp[h]
theorem above_out{zs:List Int}{lim:Int}{k:Nat}(hk:k<zs.length)(h:¬lim<el zs k):Qg (zs.take (k+1)) lim=Qg (zs.take k) lim:=by
 rw[Zy hk,Qg,Qg,List.filter_append];simp[h]
theorem isTick_is(n:Int)(w:World)(b:Bool)(hb:tickB n=b) :
  Calls prog 271 #[.int .i64 n] w fun e w'=>e=.returned (.bool b)∧w'=w:=by
 subst hb
 by_cases h:0≤n
 ·go_enter func271,ntmps271;go_wp2;go_ret;refine⟨Zp ?_,rfl⟩
  first|(simp[h,tickB];done)|(simp[h,tickB];omega)
 ·have h':decide (0≤n)=false:=by simpa using h
  go_enter func271,ntmps271;go_wp2;go_ret;exact⟨Zp (by first|(simp[tickB,h'];done)|(simp[tickB];omega)),rfl⟩
def AnsV(w:World)(xs:List Int)(e:Ending)(w':World):Prop:=(∃v,e=.returned v∧kI.Own w.1.size w' v xs)∧Below w.1.size w w'
theorem Vk(ao:Option Addr)(cap:Nat)(zs:List Int)(lim:Int)(w:World)(hl:zs.length≤1048576)(hz:kI.In w.1.size w ao zs) :
  Calls prog 260 #[.slice ao zs.length cap,.int .i64 lim] w fun e w'=>AnsV w (Qg zs lim) e w':=by
 go_enter func260,ntmps260;go_wp2
 go_loopw [5,10] (fun u i wr=>∃(k:Nat)(v:Value),v=u∧k≤zs.length∧i=.int .i64 k∧Zi (kI.Own w.1.size wr v (Qg (zs.take k) lim))∧Below w.1.size w wr) (fun _ i _=>zs.length-(intOf i).toNat)
 case atStart=>exact⟨0,_,rfl,Nat.zero_le _,rfl,Kind.Own.nil _ _ _,Below.refl _ _⟩
 case round =>
  obtain⟨k,v,rfl,hk,rfl,hO,hB⟩:=hrel
  by_cases hlt:k<zs.length
  ·obtain⟨bb,off,rfl,hbb,hc⟩:=Zo (hz.below hB) hlt;have hck:=hc k hlt;obtain⟨x,hx⟩:=nmd (el zs k);rw[←hx]at hck;have HX:Zi (x=el zs k):=hx;clear hx hc;have hs:=hB.size
   by_cases he:lim<x
   ·have HA:Zi (kI.Own w.1.size (wr.alloc (.cells #[.int .i64 x] 3)) v (Qg (zs.take k) lim)):=hO.o.below (Zk _ _);have HN:Zi (kI.In (wr.1.size+1) (wr.alloc (.cells #[.int .i64 x] 3)) (some ⟨wr.1.size,0,none⟩) [x]):=Kc (by omega) (by simp);have hll:(Qg (zs.take k) lim).length+1≤4194304:=by have:=Wg (zs.take k) lim;simp at this;omega
    have hBa:Below w.1.size w (wr.alloc (.cells #[.int .i64 x] 3)):=Zx hB _;go_wp2_with (at_builtin;refine Kind.app Vq (wr.alloc (.cells #[.int .i64 x] 3)) rfl (.tmp 17) (.tmp 19) rfl w.1.size v (Qg (zs.take k) lim) rfl HA.o (by simp;omega) (some ⟨wr.1.size,0,none⟩) [x] 1 1 rfl rfl (by simp) _ HN.o hll ?_;intro v' w' hO' hB' hG' hn';have hB2:Below w.1.size w w':=hBa.trans (hB'.mono (by omega));have HO':Zi (kI.Own w.1.size w' v' (Qg (zs.take (k+1)) lim)):=(by rw[Zi,above_in hlt (by rw[←HX.o];exact he),←HX.o];exact hO');clear hO' hB' hG' hn');go_roundw
    case rel=>exact⟨k+1,v',rfl,by omega,by go_num,HO',hB2⟩
    case measure=>simp[intOf];omega
   ·have HO':Zi (kI.Own w.1.size wr v (Qg (zs.take (k+1)) lim)):=by rw[Zi,above_out hlt (by rw[←HX.o];exact he)];exact hO.o
    go_wp2;go_roundw
    case rel=>exact⟨k+1,_,rfl,by omega,by go_num,HO',hB⟩
    case measure=>simp[intOf];omega
  ·obtain rfl:k=zs.length:=by omega
   rw[List.take_length]at hO;go_wp2;go_ret;exact⟨⟨_,rfl,hO.o⟩,hB⟩
theorem Ry(ao:Option Addr)(cap:Nat)(zs:List Int)(tick within:Int)(w:World)(hl:zs.length≤1048576)(ht:0≤tick)(ht1:tick≤1000000)(hw:1≤within)(hw1:within≤1000)(hz:kI.In w.1.size w ao zs) :
  Calls prog 215 #[.slice ao zs.length cap,.int .i64 tick,.int .i64 within] w fun e w'=>AnsV w (Qg zs (tick-within)++[tick]) e w':=by
 go_enter func215,ntmps215;go_wp2
 go_loopw [7,12] (fun u i wr=>∃(k:Nat)(v:Value),v=u∧k≤zs.length∧i=.int .i64 k∧Zi (kI.Own w.1.size wr v (Qg (zs.take k) (tick-within)))∧Below w.1.size w wr) (fun _ i _=>zs.length-(intOf i).toNat)
 case atStart=>exact⟨0,_,rfl,Nat.zero_le _,rfl,Kind.Own.nil _ _ _,Below.refl _ _⟩
 case round =>
  obtain⟨k,v,rfl,hk,rfl,hO,hB⟩:=hrel
  by_cases hlt:k<zs.length
  ·obtain⟨bb,off,rfl,hbb,hc⟩:=Zo (hz.below hB) hlt;have hck:=hc k hlt;obtain⟨x,hx⟩:=nmd (el zs k);rw[←hx]at hck;have HX:Zi (x=el zs k):=hx;clear hx hc;have hs:=hB.size
   by_cases he:(tick-within)<x
   ·have HA:Zi (kI.Own w.1.size (wr.alloc (.cells #[.int .i64 x] 3)) v (Qg (zs.take k) (tick-within))):=hO.o.below (Zk _ _);have HN:Zi (kI.In (wr.1.size+1) (wr.alloc (.cells #[.int .i64 x] 3)) (some ⟨wr.1.size,0,none⟩) [x]):=Kc (by omega) (by simp);have hll:(Qg (zs.take k) (tick-within)).length+1≤4194304:=by have:=Wg (zs.take k) (tick-within);simp at this;omega
    have hBa:Below w.1.size w (wr.alloc (.cells #[.int .i64 x] 3)):=Zx hB _;go_wp2_with (at_builtin;refine Kind.app Vq (wr.alloc (.cells #[.int .i64 x] 3)) rfl (.tmp 21) (.tmp 23) rfl w.1.size v (Qg (zs.take k) (tick-within)) rfl HA.o (by simp;omega) (some ⟨wr.1.size,0,none⟩) [x] 1 1 rfl rfl (by simp) _ HN.o hll ?_;intro v' w' hO' hB' hG' hn';have hB2:Below w.1.size w w':=hBa.trans (hB'.mono (by omega));have HO':Zi (kI.Own w.1.size w' v' (Qg (zs.take (k+1)) (tick-within))):=(by rw[Zi,above_in hlt (by rw[←HX.o];exact he),←HX.o];exact hO');clear hO' hB' hG' hn');go_roundw
    case rel=>exact⟨k+1,v',rfl,by omega,by go_num,HO',hB2⟩
    case measure=>simp[intOf];omega
   ·have HO':Zi (kI.Own w.1.size wr v (Qg (zs.take (k+1)) (tick-within))):=by rw[Zi,above_out hlt (by rw[←HX.o];exact he)];exact hO.o
    go_wp2;go_roundw
    case rel=>exact⟨k+1,_,rfl,by omega,by go_num,HO',hB⟩
    case measure=>simp[intOf];omega
  ·obtain rfl:k=zs.length:=by omega
   rw[List.take_length]at hO;have hs:=hB.size;have HA:Zi (kI.Own w.1.size (wr.alloc (.cells #[.int .i64 tick] 3)) v (Qg zs (tick-within))):=hO.o.below (Zk _ _);have HN:Zi (kI.In (wr.1.size+1) (wr.alloc (.cells #[.int .i64 tick] 3)) (some ⟨wr.1.size,0,none⟩) [tick]):=Kc (by omega) (by simp);have hll:(Qg zs (tick-within)).length+1≤4194304:=by have:=Wg zs (tick-within);omega
   have hBa:Below w.1.size w (wr.alloc (.cells #[.int .i64 tick] 3)):=Zx hB _;go_wp2_with (at_builtin;refine Kind.app Vq (wr.alloc (.cells #[.int .i64 tick] 3)) rfl (.tmp 26) (.tmp 28) rfl w.1.size v (Qg zs (tick-within)) rfl HA.o (by simp;omega) (some ⟨wr.1.size,0,none⟩) [tick] 1 1 rfl rfl (by simp) _ HN.o hll ?_;intro v' w' hO' hB' hG' hn';have hB2:Below w.1.size w w':=hBa.trans (hB'.mono (by omega));have HO':=Zd hO';clear hO' hB' hG' hn');go_ret;exact⟨⟨_,rfl,HO'.o⟩,hB2⟩
def Xn(s:PP)(v:Int):Int×PP:=if v<0∨1000<v then(2,s)else if 1000000<s.ti+v then(4,s)else(0,{ s with ti:=s.ti+v })
theorem tick_any(lo:Nat)(W:World)(p bb:Nat)(gv sv:Value)(xs:List Value)(ev fv uv:Value)(s:PP)(m1 m2 m3:Int)(h:Flow lo W p bb gv sv xs ev fv uv s)(h0:0≤s.ti)(h1:s.ti≤1000000) :
  Calls prog 249 #[.pointer (some ⟨p,0,none⟩),.agg #[.int .i64 m1,.int .i64 m2,.int .i64 m3]] W fun e W'=>e=.returned (.int .i64 (Xn s m3).1)∧FStep lo p gv sv (FO p bb xs ev fv uv) W W' (Xn s m3).2:=by
 have hb0:=Zk W (.cells #[.int .i64 m1,.int .i64 m2,.int .i64 m3] 127);have F0:=h.later hb0;have hp:=h.box.size;obtain⟨V,hV⟩:=nmd (W.alloc (.cells #[.int .i64 m1,.int .i64 m2,.int .i64 m3] 127));rw[←hV]at hb0 F0;have HF0:=Zd F0;have HB0:=Zd hb0;have HV:=Zd hV;have c2:=F0.box.c 2 rfl;have f2:=F0.box.f 2 rfl;have M0:=Bx.new (w:=W) [.int .i64 m1,.int .i64 m2,.int .i64 m3] 127 rfl;rw[←hV]at M0;have b2:=M0.c 2 rfl;have hVs:V.1.size=W.1.size+1:=by rw[hV];simp
 have HVs:=Zd hVs;clear hV F0 hb0 M0 hVs
 by_cases hlow:m3<0
 ·have hd:decide (m3<0)=true:=by simpa using hlow
  have HR:Zi (Xn s m3=(2,s)):=by rw[Zi,Xn,if_pos (.inl hlow)]
  go_enter func249,ntmps249;go_wp2;go_ret;rw[HR.o];refine⟨rfl,?_⟩;have h2:=FStep.same h HB0.o;rw[HV.o]at h2;exact h2
 have hd:decide (m3<0)=false:=by simpa using hlow
 by_cases hhi:1000<m3
 ·have hd2:decide (1000<m3)=true:=by simpa using hhi
  have HR:Zi (Xn s m3=(2,s)):=by rw[Zi,Xn,if_pos (.inr hhi)]
  go_enter func249,ntmps249;go_wp2;go_ret;rw[HR.o];refine⟨rfl,?_⟩;have h2:=FStep.same h HB0.o;rw[HV.o]at h2;exact h2
 have hd2:decide (1000<m3)=false:=by simpa using hhi
 have hw:IntKind.i64.wrap (s.ti+m3)=s.ti+m3:=by rw[IntKind.wrap_i64];omega
 obtain⟨b,hb⟩:∃b,tickB (s.ti+m3)=b:=⟨_,rfl⟩;have HT:=Zd hb;have hbv:b=decide (s.ti+m3≤1000000):=by rw[←hb,tickB,decide_eq_true (by omega),Bool.true_and]
 have HBV:=Zd hbv;clear hb hbv;have HS:Zi (V.cell? ⟨p,2,none⟩=some (.int .i64 s.ti)∧V.cell? ⟨W.1.size,2,none⟩=some (.int .i64 m3)):=⟨c2,b2⟩;go_enter func249,ntmps249;go_wp2;rw[←HV.o];refine Qq (zl:=[]) (S:=fun Y=>Y.cell? ⟨p,2,none⟩=some (.int .i64 s.ti)∧Y.cell? ⟨W.1.size,2,none⟩=some (.int .i64 m3)) (by kernel_rfl) HS.o (fun hH=>?_);refine Zq 0 hH ?_;refine Zq 1 hH ?_;refine Zq 2 hH ?_;refine Zq 3 hH ?_;refine Zq 4 hH ?_;refine Zq 5 hH ?_;refine Zq 6 hH ?_;refine Zq 7 hH ?_;refine Walks.on 8 fun K hK=>?_
 go_simp;refine(isTick_is _ _ b HT.o).mono ?_;rintro e w2 ⟨rfl,hw2⟩;rw[hw2];clear hw2 w2;refine hK.out _ _ (fun _=>HS.o) (fun _=>?_);clear hK K;refine Walks.on 9 fun K hK=>?_
 go_simp;refine hK.out _ _ (fun _=>HS.o) (fun _=>?_);clear hK K;refine Walks.done (by kernel_rfl) ?_ _;obtain⟨U,hU⟩:=nmd (V.drew);rw[←hU];have hbU:Below V.1.size V U:=by rw[hU];exact(Below.refl _ _).drew
 have HBU:=Zd (HB0.o.trans (hbU.mono HB0.o.size));have FU:=HF0.o.later hbU;have HFU:=Zd FU;have c2U:=FU.box.c 2 rfl;have f2U:=FU.box.f 2 rfl;have SU:U.cell? ⟨p,2,none⟩=some (.int .i64 s.ti)∧U.cell? ⟨W.1.size,2,none⟩=some (.int .i64 m3):=by rw[hU];exact HS.o
 clear hU hbU FU c2 f2 b2 hH
 cases b
 ·have HR:Zi (Xn s m3=(4,s)):=by
   have hh:=HBV.o;have hgt:¬s.ti+m3≤1000000:=by intro hle;rw[decide_eq_true hle]at hh;cases hh
   rw[Zi,Xn,if_neg (by omega),if_pos (by omega)]
  go_wp2;go_ret;rw[HR.o];exact⟨rfl,FStep.same h HBU.o⟩
 ·have HR:Zi (Xn s m3=(0,{ s with ti:=s.ti+m3 })):=by
   have hle:s.ti+m3≤1000000:=of_decide_eq_true HBV.o.symm;rw[Zi,Xn,if_neg (by omega),if_neg (by omega)]
  go_wp2;refine Qq (zl:=[11]) (S:=fun Y=>Y.cell? ⟨p,2,none⟩=some (.int .i64 s.ti)∧Y.cell? ⟨W.1.size,2,none⟩=some (.int .i64 m3)) (by kernel_rfl) SU (fun hH=>?_);refine Zq 0 hH ?_;refine Zq 1 hH ?_;refine Zq 2 hH ?_;refine Zq 3 hH ?_;refine Zq 4 hH ?_;refine Zq 5 hH ?_;refine Zq 6 hH ?_;refine Zq 7 hH ?_;refine Walks.on 8 fun K hK=>?_
  go_simp;refine hK.out _ _ (fun _=>SU) (fun _=>?_);clear hK K;refine Walks.on 9 fun K hK=>?_
  go_simp;refine hK.out _ _ (fun _=>SU) (fun _=>?_);clear hK K;refine Zq 10 hH ?_;refine Walks.on 11 fun K hK=>?_
  go_simp;refine hK.out _ _ (fun h=>absurd h (by decide)) (fun _=>?_);refine Walks.done (by kernel_rfl) ?_ _;clear hK K;go_wp2;go_ret;rw[HR.o];exact⟨rfl,FStep.start h HBU.o ((HFU.o.putTi (s.ti+m3)).later (Below.refl _ _).drew (Nat.le_of_lt (Nat.lt_of_le_of_lt HFU.o.lop HFU.o.box.size)))⟩
section
open Go.RowKit
section
variable {P:Program} {ops:Array Oper} {Q:Exit→Act→World→Prop} {md:Region.Mode} {S:World→Prop} {zs:Nat→Bool}
theorem Walks.two{n i j:Nat}{ls:Array Bool}{a:Act}{w:World}{o o2:Oper}(hr:Region.ready md ops ls=[i,j])(ho:ops[i]? = some o)(ho2:ops[j]? = some o2)
  (h:∀K:Act→World→Prop,Shut (∀b y,(zs i=false→S y)→((zs i=false→S y)→Walks P md ops Q S zs n (ls.setIfInBounds i true) b y)→K b y)→if Region.wanted o (yielded ops a.tmps)=true then Oper.wp P o a w K Q else K (a.put o.dst undef) w)
  (h2:∀K:Act→World→Prop,Shut (∀b y,(zs j=false→S y)→((zs j=false→S y)→Walks P md ops Q S zs n (ls.setIfInBounds j true) b y)→K b y)→if Region.wanted o2 (yielded ops a.tmps)=true then Oper.wp P o2 a w K Q else K (a.put o2.dst undef) w):Walks P md ops Q S zs (n+1) ls a w :=
 ⟨fun e=>(by rw[hr]at e;cases e),fun k hk=>by
  rw[hr]at hk
  rcases List.mem_cons.1 hk with rfl|hk
  ·exact wpOp_step ho fun K hK=>h K fun b y h1 h2=>hK b y ⟨h1,h2 h1⟩
  ·obtain rfl:=List.mem_singleton.1 hk;exact wpOp_step ho2 fun K hK=>h2 K fun b y h1 h3=>hK b y ⟨h1,h3 h1⟩⟩
end
theorem Flow.putTry{lo:Nat}{U:World}{p bb g c k:Nat}{gv sv:Value}{xs:List Value}{ev fv uv:Value}{s:PP}{t1 t2 t3:Int}{r:List (Int×Int×Int)}(h:Flow lo U p bb gv sv xs ev fv uv s)(hk:k<s.bx.length)(hr:el s.bx k=(t1,t2,t3)::r)(hg:el xs k=.slice (some ⟨g,0,none⟩) (r.length+1) c)(x:Int) :
  Flow lo (U.setCell ⟨g,2,none⟩ (.int .i64 x)) p bb gv sv xs ev fv uv { s with bx:=s.bx.set k ((t1,t2,x)::r) }:=by
 have hgo:(el xs k).ownBlock=some g:=by rw[hg];rfl
 have hkp:∀b,b≠g→(U.setCell ⟨g,2,none⟩ (.int .i64 x)).heap[b]? = U.heap[b]? := fun b hb=>Below.heap_setCell _ _ _ _ hb
 have hrow:=h.hnd.row k hk;rw[hr,hg]at hrow;have hst:kTk.Own (bb+1) (U.setCell ⟨g,2,none⟩ (.int .i64 x)) (.slice (some ⟨g,0,none⟩) (r.length+1) c) ((t1,t2,x)::r):=by
  have:=(World.ownsRow.stored (h:=hrow) 2 (.int .i64 x)).1;exact this
 have hlen:(s.bx.set k ((t1,t2,x)::r)).length=s.bx.length:=List.length_set;have hT:(Zs (s.bx.set k ((t1,t2,x)::r)):Int)=Zs s.bx:=by
  have:=Jb (ls:=s.bx) (k:=k) ((t1,t2,x)::r) hk;rw[hr]at this;simp only[List.length_cons]at this
  omega
 refine h.turn ?_ ⟨by rw[hlen];exact h.hnd.len,?_,fun j hj=>?_,fun i j hij hj=>h.hnd.off i j hij (by rw[hlen]at hj;exact hj)⟩ (fun b hb=>hkp b (fun e=>(h.apart hb).2.2.2 k hk (by rw[e];exact hgo))) (fun j hj=>h.px j (by rw[hlen]at hj;exact hj))
 ·rw[hlen,hT];exact h.box.other (fun e=>h.px k hk (by rw[←e];exact hgo)) _
 ·rw[hlen];exact Ji h.hnd.head (hkp bb (fun e=>h.bbx hk (by rw[e];exact hgo)))
 ·rw[hlen]at hj
  by_cases e:j=k
  ·subst e;rw[Zh hk,hg];exact hst
  ·rw[Zm e];refine Za (h.hnd.row j hj) fun b hb=>hkp b (fun e2=>?_)
   rw[e2]at hb
   rcases Nat.lt_or_ge j k with hjk|hjk
   ·exact h.hnd.off j k hjk hk g hb hgo
   ·exact h.hnd.off k j (by omega) hj g hgo hb
end
end Go.Proofs.YtdacedbfnlkghaaGreatDoor