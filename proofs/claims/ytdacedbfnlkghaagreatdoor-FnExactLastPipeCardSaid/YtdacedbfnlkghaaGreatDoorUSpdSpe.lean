/- The specification aborts. The specification's fault of the first token. No conditions but those written. -/
import Derived.Test.YtdacedbfnlkghaaGreatDoorUSofSpc
namespace Go.Proofs.YtdacedbfnlkghaaGreatDoor
set_option maxHeartbeats 8000000
set_option maxRecDepth 100000
open Go.RowKit Go.Proofs.Tryz
theorem lostB_app(k:Nat)(l:List (Int×Int×Int))(t:Int×Int×Int):Py k (l++[t])=Py k l++[(t.1,(k:Int),t.2.1,2)]:=by simp[Py]
theorem Na(lo:Nat)(W:World)(p bb:Nat)(gv:Value)(xs:List Value)(ev fv uv:Value)(s:PP)(h:FlowS lo W p bb gv xs ev fv uv s)(hn:s.bx.length≤10)(ht:Zs s.bx+s.fa.length≤100000) :
  Calls prog 181 #[.pointer (some ⟨p,0,none⟩)] W fun e W'=>(∃v,e=.returned v)∧FStepS lo p gv (FO p bb xs ev fv uv) W W' (Wh s):=by
 have c3:=h.box.c 3 rfl;have f3:=h.box.f 3 rfl;have c4:=h.box.c 4 rfl;have HST:=Zd (h.putCl true);go_enter func181,ntmps181;go_wp2;clear c3 f3 c4
 go_loopw [16] (fun i wr=>∃(j:Nat)(xs1:List Value)(fv1:Value),j≤s.bx.length∧i=.int .i64 (j:Int)∧Zi (FX lo p gv (FO p bb xs ev fv uv) W wr bb xs1 ev fv1 uv { s with cl:=true,bx:=clr s.bx j,fa:=s.fa++Jc s.bx j })) (fun i _=>s.bx.length-(intOf i).toNat)
 case atStart =>
  refine⟨0,xs,fv,Nat.zero_le _,rfl,?_⟩;have e:({ s with cl:=true,bx:=clr s.bx 0,fa:=s.fa++Jc s.bx 0 }:PP)={ s with cl:=true }:=by rw[clr_zero];simp[Jc]
  rw[e];exact HST
 case round =>
  obtain⟨j,xs1,fv1,hj,rfl,hS⟩:=hrel
  by_cases hlt:j<s.bx.length
  ·have hji:(j:Int)<(s.bx.length:Int):=by omega
   have hcj:=Dz (bx:=s.bx) (j:=j) (by omega);have hk':j<(clr s.bx j).length:=by rw[hcj];exact hlt
   have hT0:=(Hl s.bx j).resolve_right (by omega);have hTe:=Kl hk';have hel:=clr_el hlt;rw[hel]at hTe;have ck:=(hS.o.flow.head hk').1;obtain⟨ho,hc,hsl,hq1,hq2⟩:=hS.o.flow.hnd.slice hk';clear hq1 hq2;dsimp only at hsl;rw[hel]at hsl;rw[hsl]at ck;have HSL:=Zd hsl;have HEL:=Zd hel;obtain⟨L,hL⟩:=nmd (el s.bx j);have HLS:Zi (Jc s.bx (j+1)=Jc s.bx j++Py j L):=by rw[Zi,hL];rfl
   have HBD:Zi (s.fa.length+(Jc s.bx j).length+L.length≤100000):=by rw[Zi,hL];omega
   have HCS:Zi ((clr s.bx j).set j []=clr s.bx (j+1)):=clr_set hlt;rw[←hL]at ck HSL HEL;have HLL:=Zd hL;have HK:=Zd hk';have HCJ:=Zd hcj;obtain⟨wo,hwo⟩:=nmd (wr);rw[←hwo]at hS ck ⊢;clear hwo wr hL hsl hel hTe hT0 hk' hcj HST;go_wp2
   go_loopw [23] (fun i wr=>∃(m:Nat)(fv2:Value),m≤L.length∧i=.int .i64 (m:Int)∧Zi (FX lo p gv (FO p bb xs ev fv uv) W wr bb xs1 ev fv2 uv { s with cl:=true,bx:=clr s.bx j,fa:=(s.fa++Jc s.bx j)++Py j (L.take m) })) (fun i _=>L.length-(intOf i).toNat)
   case atStart =>
    refine⟨0,fv1,Nat.zero_le _,rfl,?_⟩;have e:(s.fa++Jc s.bx j)++Py j (L.take 0)=s.fa++Jc s.bx j:=by simp[Py]
    rw[e];exact hS
   case round =>
    obtain⟨m,fv2,hm,rfl,hS⟩:=hrel
    by_cases hlt2:m<L.length
    ·have hmi:(m:Int)<(L.length:Int):=by omega
     have hLb:L.length≤100000:=by have:=HBD.o;omega
     have hrow:=hS.o.flow.hnd.row j HK.o;rw[HSL.o]at hrow;dsimp only at hrow;rw[HEL.o]at hrow;obtain⟨ho',hc',e',_,hF'⟩:=hrow.fresh;obtain⟨rfl,rfl⟩:ho=ho'∧hc=hc':=by simp at e';exact e'
     obtain⟨b,off,rfl,hb,hcs⟩:=Ub hF'.in hlt2;obtain⟨d0,d1,d2⟩:=hcs m hlt2;have HT:=Zd (Zy hlt2);obtain⟨⟨t1,t2,t3⟩,et⟩:∃t,t=el L m:=⟨_,rfl⟩;rw[←et]at d0 d1 d2 HT;dsimp only at d0 d1 d2;have hb0:=Zk wr (.cells #[.int .i64 t1,.int .i64 t2,.int .i64 t3] 163);have T0:=Bx.new (w:=wr) [.int .i64 t1,.int .i64 t2,.int .i64 t3] 163 rfl;have X0:=Zd (hS.o.later hb0);obtain⟨V,hV⟩:=nmd (wr.alloc (.cells #[.int .i64 t1,.int .i64 t2,.int .i64 t3] 163));rw[←hV]at hb0 T0 X0;have HV:=Zd hV;have hVs:wr.1.size<V.1.size:=by rw[hV];simp
     obtain⟨FA,hFA⟩:=nmd ((s.fa++Jc s.bx j)++Py j (L.take m));have HFA:=Zd hFA;have hFl:FA.length≤100000:=by
      have h1:=HBD.o;rw[hFA];simp only[List.length_append,Py,List.length_map,List.length_take];omega
     rw[←hFA]at X0;obtain⟨fo,fc,hfv,hfn,_⟩:=X0.o.flow.fao.fresh;have c6:=X0.o.flow.box.c 6 rfl;rw[hfv]at c6;dsimp only at c6;have hp:=X0.o.flow.box.size;have hlo:=X0.o.flow.lo_le;have t0:=T0.c 0 rfl;have t1':=T0.c 1 rfl;have hnw:fv2.ownBlock≠some wr.1.size:=fun e=>by
      have:=(Zj hS.o.flow.fao e).2;omega
     have hnp:fv2.ownBlock≠some p:=hS.o.flow.pf;have HFV:=Zd hfv;rw[hfv]at hnw hnp;dsimp only at hnw hnp;clear hV hb0 hS hFA T0 hfv hrow hF' hcs et;go_wp2;rw[←HV.o];refine Qq (zl:=[17]) (S:=fun Y=>Y.cell? ⟨p,6,none⟩=some (.slice fo FA.length fc)∧Y.cell? ⟨wr.1.size,0,none⟩=some (.int .i64 t1)∧Y.cell? ⟨wr.1.size,1,none⟩=some (.int .i64 t2)) (by kernel_rfl) ⟨c6,t0,t1'⟩ (fun hH=>?_);refine Zq 0 hH ?_;refine Zq 1 hH ?_;refine Zq 2 hH ?_;refine Zq 3 hH ?_;refine Zq 4 hH ?_;refine Zq 5 hH ?_;refine Zq 6 hH ?_;refine Zq 7 hH ?_;refine Zq 8 hH ?_;refine Zq 9 hH ?_;refine Zq 10 hH ?_;refine Zq 11 hH ?_;refine Walks.on 12 fun K hK=>?_
     go_simp;obtain⟨U,hU⟩:=nmd ((V.alloc (.cells #[.int .i64 t1,.int .i64 (j:Int),.int .i64 t2,.int .i64 2] 141)).drew);rw[←hU];have hbU:Below V.1.size V U:=by rw[hU];exact(Zk V _).drew
     have hN:kLo.In U.1.size U (some ⟨V.1.size,0,none⟩) [(t1,(j:Int),t2,2)]:=by
      have hx:Bx U V.1.size [.int .i64 t1,.int .i64 (j:Int),.int .i64 t2,.int .i64 2]:=by rw[hU];exact(Bx.new (w:=V) [.int .i64 t1,.int .i64 (j:Int),.int .i64 t2,.int .i64 2] 141 rfl).drew
      exact kLo_one hx.size (hx.c 0 rfl) (hx.c 1 rfl) (hx.c 2 rfl) (hx.c 3 rfl)
     have hUs:=hbU.size;have SU:U.cell? ⟨p,6,none⟩=some (.slice fo FA.length fc)∧U.cell? ⟨wr.1.size,0,none⟩=some (.int .i64 t1)∧U.cell? ⟨wr.1.size,1,none⟩=some (.int .i64 t2):=⟨(hbU.cell (p:=⟨p,6,none⟩) hp).trans c6,(hbU.cell (p:=⟨wr.1.size,0,none⟩) hVs).trans t0,(hbU.cell (p:=⟨wr.1.size,1,none⟩) hVs).trans t1'⟩;refine hK.out _ _ (fun _=>SU) (fun _=>?_);clear hK K hU;have hOU:kLo.Own lo U (.slice fo FA.length fc) FA:=by rw[←HFV.o];exact(X0.o.later hbU).flow.fao
     refine Walks.on 13 fun K hK=>?_
     refine Je kLo_ok U (by rfl) (.tmp 32) (.tmp 39) (by rfl) lo (.slice fo FA.length fc) FA (by rfl) hOU (by omega) (some ⟨V.1.size,0,none⟩) [(t1,(j:Int),t2,2)] 1 1 (by rfl) rfl (by simp) _ hN (by rw[List.length_singleton];omega) ?_;intro v' w2 hO2 hB2 hG2 hw2;obtain⟨L2,hL2⟩:=nmd (FA++[(t1,(j:Int),t2,2)]);rw[←hL2]at hO2;have HL2:=Zd hL2;clear hL2;obtain⟨vo,vc,hv',_,_⟩:=hO2.fresh;have S2:w2.cell? ⟨p,6,none⟩=some (.slice fo FA.length fc)∧w2.cell? ⟨wr.1.size,0,none⟩=some (.int .i64 t1)∧w2.cell? ⟨wr.1.size,1,none⟩=some (.int .i64 t2):=⟨(World.cell?_of_block (a:=⟨p,6,none⟩) (hG2.block p (Nat.lt_of_lt_of_le hp hUs) (fun e=>hnp e.symm))).trans SU.1,(World.cell?_of_block (a:=⟨wr.1.size,0,none⟩) (hG2.block wr.1.size (Nat.lt_of_lt_of_le hVs hUs) (fun e=>hnw e.symm))).trans SU.2.1,(World.cell?_of_block (a:=⟨wr.1.size,1,none⟩) (hG2.block wr.1.size (Nat.lt_of_lt_of_le hVs hUs) (fun e=>hnw e.symm))).trans SU.2.2⟩;refine hK.out _ _ (fun _=>S2) (fun _=>?_);clear hK K;refine Walks.on 14 fun K hK=>?_
     go_simp;refine hK.out _ _ (fun _=>S2) (fun _=>?_);clear hK K;refine Walks.on 15 fun K hK=>?_
     go_simp;refine hK.out _ _ (fun _=>S2) (fun _=>?_);clear hK K;refine Zq 16 S2 ?_;refine Walks.on 17 fun K hK=>?_
     have FU:=(X0.o.later hbU).flow;have f6:w2.frozen? ⟨p,6,none⟩=false:=(World.frozen?_of_block (a:=⟨p,6,none⟩) (hG2.block p (Nat.lt_of_lt_of_le hp hUs) (fun e=>hnp e.symm))).trans (FU.box.f 6 rfl);have HX2:=Zd ((X0.o.later hbU).trans (FU.putFa hO2 hB2 (by rw[HFV.o];exact hG2) (by rw[HFV.o];exact hw2)));have c62:=S2.1;rw[hv']at HX2
     (try rw[hv'])
     go_simp;refine hK.out _ _ (fun h=>absurd h (by decide)) (fun _=>?_);refine Walks.done (by kernel_rfl) ?_ _;clear hK K;have HX3:Zi (FX lo p gv (FO p bb xs ev fv uv) W (w2.setCell ⟨p,6,none⟩ (.slice vo L2.length vc)) bb xs1 ev (.slice vo L2.length vc) uv { s with cl:=true,bx:=clr s.bx j,fa:=(s.fa++Jc s.bx j)++Py j (L.take (m+1)) }):=by
      rw[Zi,HT.o,lostB_app,←List.append_assoc,←HFA.o,←HL2.o];exact HX2.o
     clear HX2 FU X0 S2 SU hOU hN hbU hO2 hB2 hG2 hw2 f6 c62 c6 t0 t1' HT;go_wp2;go_roundw
     case rel=>exact⟨m+1,_,by omega,by go_num,HX3⟩
     case measure=>simp[intOf];omega
    ·obtain rfl:m=L.length:=by omega
     rw[List.take_length]at hS;have F:=hS.o.flow;have c4:=F.box.c 4 rfl;dsimp only at c4;rw[HCJ.o]at c4;have ck2:=(F.head HK.o).1;have fk2:=(F.head HK.o).2;rw[HSL.o]at ck2;have HX:=Zd (hS.o.trans (F.putRow (k:=j) (v':=.slice none 0 0) (L:=[]) HK.o (Kind.Own.nil _ _ _) (Below.refl _ _) ⟨rfl,rfl,rfl,Nat.le_refl _,fun _ _ _=>rfl⟩ (fun b hb=>by simp[Value.ownBlock]at hb)));have HX3:Zi (FX lo p gv (FO p bb xs ev fv uv) W (wr.setCell ⟨bb,j,none⟩ (.slice none 0 0)) bb (xs1.set j (.slice none 0 0)) ev fv2 uv { s with cl:=true,bx:=clr s.bx (j+1),fa:=s.fa++Jc s.bx (j+1) }):=by
      have h1:=HX.o;dsimp only at h1;rw[HCS.o,List.append_assoc,←HLS.o]at h1;exact h1
     clear HX hS F;go_wp2;go_roundw
     case rel=>exact⟨j+1,_,_,by omega,by go_num,HX3⟩
     case measure=>simp[intOf];omega
  ·obtain rfl:j=s.bx.length:=by omega
   go_wp2
   first|refine bodyPost_ret (results_none rfl _ _ _) rfl ?_|refine bodyPost_end (results_none rfl _ _ _) rfl ?_
   exact⟨⟨_,rfl⟩,hS.o.step⟩
theorem Ci(lo:Nat)(W:World)(p bb:Nat)(gv:Value)(xs:List Value)(ev fv uv:Value)(s:PP)(k:Nat)(t1 t2 t3:Int)(r:List (Int×Int×Int))(h:FlowS lo W p bb gv xs ev fv uv s)(hk:k<s.bx.length)(hr:el s.bx k=(t1,t2,t3)::r)(hn:s.bx.length≤10)(ht:Zs s.bx+s.fa.length≤100000)(hfu:s.fu.length≤100)(h0:0≤s.ti)(h1:s.ti≤1000000)(h3:0≤t3)(h4:t3≤1000) :
  Calls prog 178 #[.pointer (some ⟨p,0,none⟩),.int .i64 (k:Int)] W fun e W'=>e=.returned (.int .i64 0)∧FStepS lo p gv (FO p bb xs ev fv uv) W W' (Kw s k t1 t2 t3 r):=by
 have hxk:k<xs.length:=by rw[h.hnd.len];exact hk
 obtain⟨ho,hc,hsl,hcn,hFr⟩:=h.hnd.slice hk;rw[hr]at hsl hFr;obtain⟨g,rfl,hg1,hg2,hg3,hgo⟩:=hFr.at (by simp);simp only[List.length_cons]at hsl;have c4:=h.box.c 4 rfl;have ck:=(h.head hk).1;rw[hsl]at ck;have hki:(k:Int)<(s.bx.length:Int):=by omega
 have hr1:(0:Int)<((r.length+1:Nat):Int):=by omega
 obtain⟨b0,off0,e0,hbl,hcs⟩:=Ub hFr.in (k:=0) (by simp)
 simp at e0
 obtain⟨rfl,rfl⟩:=e0;have d2:W.cell? ⟨g,2,none⟩=some (.int .i64 t3):=(hcs 0 (by simp)).2.2;have e2:W.frozen? ⟨g,2,none⟩=false:=hgo.frozenAt 2;have F1:=h.putTry hk hr hsl (t3+1);have hlow:lo≤g:=Nat.le_trans h.lob (by omega);have hin1:FO p bb xs ev fv uv g:=.inr (.inr (.inl ⟨k,hxk,by rw[hsl];rfl⟩));have X1:FX lo p gv (FO p bb xs ev fv uv) W (W.setCell ⟨g,2,none⟩ (.int .i64 (t3+1))) bb xs ev fv uv { s with bx:=s.bx.set k ((t1,t2,t3+1)::r) }:=⟨F1,fun b hb=>.inl hb,(Below.refl _ _).setCell (p:=⟨g,2,none⟩) hlow _,fun b hb hO=>Below.heap_setCell _ _ _ _ (fun e=>hO (by rw[show b=g from e];exact hin1))⟩;obtain⟨W1,hW1⟩:=nmd (W.setCell ⟨g,2,none⟩ (.int .i64 (t3+1)));rw[←hW1]at X1;have HW1:=Zd hW1;have HX1:=Zd X1;have hTS:=Jb (ls:=s.bx) (k:=k) ((t1,t2,t3+1)::r) hk;rw[hr]at hTS;simp only[List.length_cons]at hTS;have hTS2:=Jb (ls:=s.bx) (k:=k) r hk;rw[hr]at hTS2;simp only[List.length_cons]at hTS2;have HTS:=Zd hTS;have HTS2:=Zd hTS2;clear hW1 X1 F1 hcs hFr hgo hbl hTS hTS2;go_enter func178,ntmps178
 by_cases hp3:3<t3+1
 ·have hd3:decide (3<t3+1)=true:=by simpa using hp3
  have HFI:=Zd (Cg lo W1 p bb gv xs ev fv uv _ k t1 t2 (t3+1) r HX1.o.flow (by simp only[List.length_set];exact hk) (Zh hk) (by have:=HTS.o;dsimp only;omega));go_wp2_with fail;rw[←HW1.o];refine HFI.o.mono ?_;rintro e w2 ⟨rfl,hs0⟩;rw[List.set_set]at hs0;obtain⟨bb2,xs2,ev2,fv2,uv2,X2⟩:=hs0.fx;have X3:=HX1.o.trans X2;have hb0:=Zk w2 (.cells #[.int .i64 t1,.int .i64 t2,.int .i64 (t3+1)] 163);have T0:=Bx.new (w:=w2) [.int .i64 t1,.int .i64 t2,.int .i64 (t3+1)] 163 rfl;have X0:=Zd (X3.later hb0);obtain⟨V,hV⟩:=nmd (w2.alloc (.cells #[.int .i64 t1,.int .i64 t2,.int .i64 (t3+1)] 163));rw[←hV]at hb0 T0 X0;have HV:=Zd hV;have hVs:w2.1.size<V.1.size:=by rw[hV];simp
  have hfl:s.fa.length≤100000:=by omega
  obtain⟨fo,fc,hfv,hfn,_⟩:=X0.o.flow.fao.fresh;have c6:=X0.o.flow.box.c 6 rfl;rw[hfv]at c6;dsimp only at c6;have hp:=X0.o.flow.box.size;have hlo:=X0.o.flow.lo_le;have t0:=T0.c 0 rfl;have t1':=T0.c 1 rfl;have hnw:fv2.ownBlock≠some w2.1.size:=fun e=>by
   have:=(Zj X3.flow.fao e).2;omega
  have hnp:fv2.ownBlock≠some p:=X3.flow.pf;have HFV:=Zd hfv;rw[hfv]at hnw hnp;dsimp only at hnw hnp;clear hV hb0 T0 hfv X3 X2 hs0 HFI HX1 c4 ck d2 e2;go_wp2_with fail;rw[←HV.o];refine Qq (zl:=[17]) (S:=fun Y=>Y.cell? ⟨p,6,none⟩=some (.slice fo s.fa.length fc)∧Y.cell? ⟨w2.1.size,0,none⟩=some (.int .i64 t1)∧Y.cell? ⟨w2.1.size,1,none⟩=some (.int .i64 t2)) (by kernel_rfl) ⟨c6,t0,t1'⟩ (fun hH=>?_);refine Zq 0 hH ?_;refine Zq 1 hH ?_;refine Zq 2 hH ?_;refine Zq 3 hH ?_;refine Zq 4 hH ?_;refine Zq 5 hH ?_;refine Zq 6 hH ?_;refine Zq 7 hH ?_;refine Zq 8 hH ?_;refine Zq 9 hH ?_;refine Zq 10 hH ?_;refine Zq 11 hH ?_;refine Walks.on 12 fun K hK=>?_
  go_simp;obtain⟨U,hU⟩:=nmd ((V.alloc (.cells #[.int .i64 t1,.int .i64 (k:Int),.int .i64 t2,.int .i64 1] 141)).drew);rw[←hU];have hbU:Below V.1.size V U:=by rw[hU];exact(Zk V _).drew
  have hN:kLo.In U.1.size U (some ⟨V.1.size,0,none⟩) [(t1,(k:Int),t2,1)]:=by
   have hx:Bx U V.1.size [.int .i64 t1,.int .i64 (k:Int),.int .i64 t2,.int .i64 1]:=by rw[hU];exact(Bx.new (w:=V) [.int .i64 t1,.int .i64 (k:Int),.int .i64 t2,.int .i64 1] 141 rfl).drew
   exact kLo_one hx.size (hx.c 0 rfl) (hx.c 1 rfl) (hx.c 2 rfl) (hx.c 3 rfl)
  have hUs:=hbU.size;have SU:U.cell? ⟨p,6,none⟩=some (.slice fo s.fa.length fc)∧U.cell? ⟨w2.1.size,0,none⟩=some (.int .i64 t1)∧U.cell? ⟨w2.1.size,1,none⟩=some (.int .i64 t2):=⟨(hbU.cell (p:=⟨p,6,none⟩) hp).trans c6,(hbU.cell (p:=⟨w2.1.size,0,none⟩) hVs).trans t0,(hbU.cell (p:=⟨w2.1.size,1,none⟩) hVs).trans t1'⟩;refine hK.out _ _ (fun _=>SU) (fun _=>?_);clear hK K hU;have hOU:kLo.Own lo U (.slice fo s.fa.length fc) s.fa:=by rw[←HFV.o];exact(X0.o.later hbU).flow.fao
  refine Walks.on 13 fun K hK=>?_
  refine Je kLo_ok U (by rfl) (.tmp 36) (.tmp 43) (by rfl) lo (.slice fo s.fa.length fc) s.fa (by rfl) hOU (by omega) (some ⟨V.1.size,0,none⟩) [(t1,(k:Int),t2,1)] 1 1 (by rfl) rfl (by simp) _ hN (by rw[List.length_singleton];omega) ?_;intro v' w3 hO2 hB2 hG2 hw2;obtain⟨L2,hL2⟩:=nmd (s.fa++[(t1,(k:Int),t2,1)]);rw[←hL2]at hO2;have HL2:=Zd hL2;clear hL2;obtain⟨vo,vc,hv',_,_⟩:=hO2.fresh;have S2:w3.cell? ⟨p,6,none⟩=some (.slice fo s.fa.length fc)∧w3.cell? ⟨w2.1.size,0,none⟩=some (.int .i64 t1)∧w3.cell? ⟨w2.1.size,1,none⟩=some (.int .i64 t2):=⟨(World.cell?_of_block (a:=⟨p,6,none⟩) (hG2.block p (Nat.lt_of_lt_of_le hp hUs) (fun e=>hnp e.symm))).trans SU.1,(World.cell?_of_block (a:=⟨w2.1.size,0,none⟩) (hG2.block w2.1.size (Nat.lt_of_lt_of_le hVs hUs) (fun e=>hnw e.symm))).trans SU.2.1,(World.cell?_of_block (a:=⟨w2.1.size,1,none⟩) (hG2.block w2.1.size (Nat.lt_of_lt_of_le hVs hUs) (fun e=>hnw e.symm))).trans SU.2.2⟩;refine hK.out _ _ (fun _=>S2) (fun _=>?_);clear hK K;refine Walks.on 14 fun K hK=>?_
  go_simp;refine hK.out _ _ (fun _=>S2) (fun _=>?_);clear hK K;refine Walks.on 15 fun K hK=>?_
  go_simp;refine hK.out _ _ (fun _=>S2) (fun _=>?_);clear hK K;refine Zq 16 S2 ?_;refine Walks.on 17 fun K hK=>?_
  have FU:=(X0.o.later hbU).flow;have f6:w3.frozen? ⟨p,6,none⟩=false:=(World.frozen?_of_block (a:=⟨p,6,none⟩) (hG2.block p (Nat.lt_of_lt_of_le hp hUs) (fun e=>hnp e.symm))).trans (FU.box.f 6 rfl);have HX2:=Zd ((X0.o.later hbU).trans (FU.putFa hO2 hB2 (by rw[HFV.o];exact hG2) (by rw[HFV.o];exact hw2)));have c62:=S2.1;rw[hv']at HX2
  (try rw[hv'])
  go_simp;refine hK.out _ _ (fun h=>absurd h (by decide)) (fun _=>?_);refine Walks.done (by kernel_rfl) ?_ _;clear hK K;obtain⟨Vn,hVn⟩:=nmd (w3.setCell ⟨p,6,none⟩ (.slice vo L2.length vc));rw[←hVn]at HX2 ⊢;rw[HL2.o]at HX2;obtain⟨s2,hs2⟩:∃s2:PP,s2={ s with bx:=s.bx.set k r,fa:=s.fa++[(t1,(k:Int),t2,1)] }:=⟨_,rfl⟩;have HFT:Zi (Kw s k t1 t2 t3 r=failT s2):=by rw[Zi,Kw,if_pos hp3,hs2]
  have HQ:Zi (s2.ti=s.ti∧s2.fu=s.fu∧s2.bx.length=s.bx.length∧Zs s2.bx+s2.fa.length≤100000):=by
   have hq:=HTS2.o;rw[Zi,hs2];exact⟨rfl,rfl,List.length_set,by show Zs (s.bx.set k r)+(s.fa++[_]).length≤100000;rw[List.length_append,List.length_singleton];omega⟩
  rw[←hs2]at HX2;clear hVn hs2 FU X0 S2 SU hOU hN hbU hO2 hB2 hG2 hw2 f6 c62 c6 t0 t1' HL2 HFV hH HV;have hti0:0≤s2.ti:=by rw[HQ.o.1];exact h0
  have hti1:s2.ti≤1000000:=by rw[HQ.o.1];exact h1
  have hfu2:s2.fu.length≤100:=by rw[HQ.o.2.1];exact hfu
  have hn2:s2.bx.length≤10:=by rw[HQ.o.2.2.1];exact hn
  have ht2:Zs s2.bx+s2.fa.length≤100000:=HQ.o.2.2.2;have F2:=HX2.o.flow;obtain⟨uo,uc,huv,_,_⟩:=F2.fuo.fresh;obtain⟨uo2,uc2,huv2,_,hIU⟩:=F2.fuo.in;have hIU2:kI.In Vn.1.size Vn uo s2.fu:=by rw[huv]at huv2;simp at huv2;rw[huv2.1];exact hIU
  have HIU:=Zd hIU2;have SU:=And.intro (F2.box.c 7 rfl) (F2.box.c 1 rfl);rw[huv]at SU;have hpw:=F2.box.size;have hlo:=F2.lo_le;have HF2:=Zd F2;clear hIU hIU2 huv2 huv F2;go_wp2_with fail;refine Qq (zl:=[15]) (S:=fun Y=>Y.cell? ⟨p,7,none⟩=some (.slice uo s2.fu.length uc)∧Y.cell? ⟨p,1,none⟩=some (.int .i64 s2.ti)) (by kernel_rfl) SU (fun hH=>?_);refine Zq 0 hH ?_;refine Zq 1 hH ?_;refine Zq 2 hH ?_;refine Zq 3 hH ?_;refine Zq 4 hH ?_;refine Zq 5 hH ?_;refine Zq 6 hH ?_;refine Zq 7 hH ?_;refine Zq 8 hH ?_;refine Zq 9 hH ?_;refine Zq 10 hH ?_;refine Walks.on 11 fun K hK=>?_
  go_simp;refine(Ry uo uc s2.fu s2.ti 10 Vn.drew (by omega) hti0 hti1 (by omega) (by omega) (by exact HIU.o)).mono ?_;rintro e w1 ⟨⟨v1,rfl,hO1⟩,hb10⟩;have hb1:Below Vn.1.size Vn w1:=(Below.refl Vn.1.size Vn).drew.trans hb10;clear hb10;have S1:=And.intro ((hb1.cell (p:=⟨p,7,none⟩) hpw).trans SU.1) ((hb1.cell (p:=⟨p,1,none⟩) hpw).trans SU.2);refine hK.out _ _ (fun _=>S1) (fun _=>?_);clear hK K;refine Walks.on 12 fun K hK=>?_
  go_simp;refine hK.out _ _ (fun _=>S1) (fun _=>?_);clear hK K;refine Walks.on 13 fun K hK=>?_
  go_simp;refine hK.out _ _ (fun _=>S1) (fun _=>?_);clear hK K;refine Zq 14 S1 ?_;obtain⟨L,hL⟩:=nmd (Qg s2.fu (s2.ti-10)++[s2.ti]);rw[←hL]at hO1;have HL:=Zd hL;clear hL;obtain⟨vo,vc,hv1,_,_⟩:=hO1.fresh;have hfl:∀b,v1.ownBlock=some b→Vn.1.size≤b:=fun b hb=>(Zj hO1 hb).1
  have f7:=((HF2.o.later hb1).box.f 7 rfl);have HX4:=Zd (HX2.o.trans (HF2.o.putFu (L:=L) (Yn hO1 hlo) (hb1.mono hlo) ⟨hb1.os,hb1.tape,hb1.output,hb1.size,fun b h1 _=>hb1.block b h1⟩ (fun b hb=>.inr (hfl b hb))));have S10:=S1.1;refine Walks.on 15 fun K hK=>?_
  rw[hv1]at HX4;rw[hv1];go_simp;refine hK.out _ _ (fun h=>absurd h (by decide)) (fun _=>?_);refine Walks.done (by kernel_rfl) ?_ _;clear hK K;obtain⟨w4,h4⟩:=nmd (w1.setCell ⟨p,7,none⟩ (.slice vo L.length vc));rw[←h4]at HX4 ⊢;have c7:=HX4.o.flow.box.c 7 rfl;have f74:=HX4.o.flow.box.f 7 rfl;clear h4 S10 S1 f7 hO1 hb1 HF2 HX2 SU HIU hH
  by_cases h5:5<L.length
  ·have hd5:decide (5<(L.length:Int))=true:=by simp;omega
   have HX5:=Zd (HX4.o.trans (HX4.o.flow.putFu (v':=.slice none 0 0) (L:=[]) (Kind.Own.nil _ _ _) (Below.refl _ _) ⟨rfl,rfl,rfl,Nat.le_refl _,fun _ _ _=>rfl⟩ (fun g hg=>by simp[Value.ownBlock]at hg)));obtain⟨w5,hw5⟩:=nmd (w4.setCell ⟨p,7,none⟩ (.slice none 0 0));rw[←hw5]at HX5;have HW5:=Zd hw5;have HA:=Zd (Na lo w5 p _ gv _ _ _ _ _ HX5.o.flow hn2 ht2);clear hw5 HX4;go_wp2_with fail;rw[←HW5.o];refine HA.o.mono ?_;rintro e w6 ⟨⟨v6,rfl⟩,hs6⟩;obtain⟨bb6,xs6,ev6,fv6,uv6,X6⟩:=hs6.fx;have HX7:=Zd (HX5.o.trans X6).step;clear hs6 X6 HA HX5;go_wp2;go_ret;have hf:failT s2={ Wh s2 with fu:=[] }:=by rw[failT,if_pos (by rw[←HL.o];exact h5)]
   rw[HFT.o,hf];exact⟨rfl,HX7.o⟩
  ·have hd5:decide (5<(L.length:Int))=false:=by simp;omega
   go_wp2;go_ret;have hf:failT s2={ s2 with fu:=L }:=by rw[failT,if_neg (by rw[←HL.o];exact h5),←HL.o]
   rw[HFT.o,hf];exact⟨rfl,HX4.o.step⟩
 ·have hd3:decide (3<t3+1)=false:=by simpa using hp3
  obtain⟨s2,hs2⟩:∃s2:PP,s2={ s with bx:=s.bx.set k ((t1,t2,t3+1)::r) }:=⟨_,rfl⟩;have HFT:Zi (Kw s k t1 t2 t3 r=failT s2):=by rw[Zi,Kw,if_neg hp3,hs2]
  have HQ:Zi (s2.ti=s.ti∧s2.fu=s.fu∧s2.bx.length=s.bx.length∧Zs s2.bx+s2.fa.length≤100000):=by
   have hq:=HTS.o;rw[Zi,hs2];exact⟨rfl,rfl,List.length_set,by show Zs (s.bx.set k ((t1,t2,t3+1)::r))+s.fa.length≤100000;omega⟩
  have HX2:=HX1;rw[←hs2]at HX2;clear hs2 HX1;have hti0:0≤s2.ti:=by rw[HQ.o.1];exact h0
  have hti1:s2.ti≤1000000:=by rw[HQ.o.1];exact h1
  have hfu2:s2.fu.length≤100:=by rw[HQ.o.2.1];exact hfu
  have hn2:s2.bx.length≤10:=by rw[HQ.o.2.2.1];exact hn
  have ht2:Zs s2.bx+s2.fa.length≤100000:=HQ.o.2.2.2;have F2:=HX2.o.flow;obtain⟨uo,uc,huv,_,_⟩:=F2.fuo.fresh;obtain⟨uo2,uc2,huv2,_,hIU⟩:=F2.fuo.in;have hIU2:kI.In W1.1.size W1 uo s2.fu:=by rw[huv]at huv2;simp at huv2;rw[huv2.1];exact hIU
  have HIU:=Zd hIU2;have SU:=And.intro (F2.box.c 7 rfl) (F2.box.c 1 rfl);rw[huv]at SU;have hpw:=F2.box.size;have hlo:=F2.lo_le;have HF2:=Zd F2;clear hIU hIU2 huv2 huv F2;go_wp2_with fail;rw[←HW1.o];refine Qq (zl:=[15]) (S:=fun Y=>Y.cell? ⟨p,7,none⟩=some (.slice uo s2.fu.length uc)∧Y.cell? ⟨p,1,none⟩=some (.int .i64 s2.ti)) (by kernel_rfl) SU (fun hH=>?_);refine Zq 0 hH ?_;refine Zq 1 hH ?_;refine Zq 2 hH ?_;refine Zq 3 hH ?_;refine Zq 4 hH ?_;refine Zq 5 hH ?_;refine Zq 6 hH ?_;refine Zq 7 hH ?_;refine Zq 8 hH ?_;refine Zq 9 hH ?_;refine Zq 10 hH ?_;refine Walks.on 11 fun K hK=>?_
  go_simp;refine(Ry uo uc s2.fu s2.ti 10 W1.drew (by omega) hti0 hti1 (by omega) (by omega) (by exact HIU.o)).mono ?_;rintro e w1 ⟨⟨v1,rfl,hO1⟩,hb10⟩;have hb1:Below W1.1.size W1 w1:=(Below.refl W1.1.size W1).drew.trans hb10;clear hb10;have S1:=And.intro ((hb1.cell (p:=⟨p,7,none⟩) hpw).trans SU.1) ((hb1.cell (p:=⟨p,1,none⟩) hpw).trans SU.2);refine hK.out _ _ (fun _=>S1) (fun _=>?_);clear hK K;refine Walks.on 12 fun K hK=>?_
  go_simp;refine hK.out _ _ (fun _=>S1) (fun _=>?_);clear hK K;refine Walks.on 13 fun K hK=>?_
  go_simp;refine hK.out _ _ (fun _=>S1) (fun _=>?_);clear hK K;refine Zq 14 S1 ?_;obtain⟨L,hL⟩:=nmd (Qg s2.fu (s2.ti-10)++[s2.ti]);rw[←hL]at hO1;have HL:=Zd hL;clear hL;obtain⟨vo,vc,hv1,_,_⟩:=hO1.fresh;have hfl:∀b,v1.ownBlock=some b→W1.1.size≤b:=fun b hb=>(Zj hO1 hb).1
  have f7:=((HF2.o.later hb1).box.f 7 rfl);have HX4:=Zd (HX2.o.trans (HF2.o.putFu (L:=L) (Yn hO1 hlo) (hb1.mono hlo) ⟨hb1.os,hb1.tape,hb1.output,hb1.size,fun b h1 _=>hb1.block b h1⟩ (fun b hb=>.inr (hfl b hb))));have S10:=S1.1;refine Walks.on 15 fun K hK=>?_
  rw[hv1]at HX4;rw[hv1];go_simp;refine hK.out _ _ (fun h=>absurd h (by decide)) (fun _=>?_);refine Walks.done (by kernel_rfl) ?_ _;clear hK K;obtain⟨w4,h4⟩:=nmd (w1.setCell ⟨p,7,none⟩ (.slice vo L.length vc));rw[←h4]at HX4 ⊢;have c7:=HX4.o.flow.box.c 7 rfl;have f74:=HX4.o.flow.box.f 7 rfl;clear h4 S10 S1 f7 hO1 hb1 HF2 HX2 SU HIU hH
  by_cases h5:5<L.length
  ·have hd5:decide (5<(L.length:Int))=true:=by simp;omega
   have HX5:=Zd (HX4.o.trans (HX4.o.flow.putFu (v':=.slice none 0 0) (L:=[]) (Kind.Own.nil _ _ _) (Below.refl _ _) ⟨rfl,rfl,rfl,Nat.le_refl _,fun _ _ _=>rfl⟩ (fun g hg=>by simp[Value.ownBlock]at hg)));obtain⟨w5,hw5⟩:=nmd (w4.setCell ⟨p,7,none⟩ (.slice none 0 0));rw[←hw5]at HX5;have HW5:=Zd hw5;have HA:=Zd (Na lo w5 p _ gv _ _ _ _ _ HX5.o.flow hn2 ht2);clear hw5 HX4;go_wp2_with fail;rw[←HW5.o];refine HA.o.mono ?_;rintro e w6 ⟨⟨v6,rfl⟩,hs6⟩;obtain⟨bb6,xs6,ev6,fv6,uv6,X6⟩:=hs6.fx;have HX7:=Zd (HX5.o.trans X6).step;clear hs6 X6 HA HX5;go_wp2;go_ret;have hf:failT s2={ Wh s2 with fu:=[] }:=by rw[failT,if_pos (by rw[←HL.o];exact h5)]
   rw[HFT.o,hf];exact⟨rfl,HX7.o⟩
  ·have hd5:decide (5<(L.length:Int))=false:=by simp;omega
   go_wp2;go_ret;have hf:failT s2={ s2 with fu:=L }:=by rw[failT,if_neg (by rw[←HL.o];exact h5),←HL.o]
   rw[HFT.o,hf];exact⟨rfl,HX4.o.step⟩
end Go.Proofs.YtdacedbfnlkghaaGreatDoor