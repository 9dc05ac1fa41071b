/- A line that begins a script: the program. A line answered, whatever the script has come to: the program. The specification's flow in memory, and what its steps leave. The specification takes a token out of a box. No conditions but those written. -/
import Derived.Test.YtdacedbfnlkghaaGreatDoorUSoaSoe
namespace Go.Proofs.YtdacedbfnlkghaaGreatDoor
set_option maxHeartbeats 8000000
set_option maxRecDepth 100000
open Go.RowKit Go.Proofs.Tryz
theorem PA.oldO{q:Nat}{W:World}{o:Option Addr}{c:Nat}{us:List LNode}{hi:Nat}(h:PA q W o c us hi):∀b,OA q o b→b<W.1.size:=fun b hb=>by
 have h1:=h.box.size
 rcases hb with rfl|⟨a,rfl,rfl⟩
 ·exact h1
 ·have h2:=h.hi1;have h3:=h.hi0
  rcases h.gr.2.1.2 with⟨e,_⟩|⟨g,cap,cur,e,hg,hh,_⟩
  ·cases e
  ·simp at e;rw[e.1];exact(Array.getElem?_eq_some_iff.1 hh).1
def begS'(us:List LNode):SS:={ gs:=us.map Zz,bg:=true,bad:=0,s:=pp0 us.length,n:=0 }
def AnsBR(q:Nat)(W:World)(o:Option Addr)(c:Nat)(us:List LNode)(hi:Nat)(ws:List ByteArray)(e:Ending)(W':World):Prop :=
 if Hz (us.map Zz)=0 then∃lo p so sc,Sz q W o c us hi lo p so sc (OA q o) (runA (begS' us) ws) e W' else AnsPB q W o c us hi (Hz (us.map Zz)) (OA q o) e W'
theorem answer_beg(n0 q:Nat)(W:World)(o:Option Addr)(c:Nat)(us:List LNode)(hi:Nat)(ea:Nat→Addr)(line:ByteArray)(ws:List ByteArray)(hws:ws=Zw line 32)(h:PA q W o c us hi)(hs:line.size≤3000)(hV:Env n0 W ea)(hn:n0≤q)(hw0:el ws 0≠Xw) :
  Calls prog 83 #[.pointer (some ⟨q,0,none⟩),.string line] W (AnsBR q W o c us hi ws):=by
 have HP:Zi (Calls prog 34 #[.string line,.int .i32 32] W (AnsS W ws)):=by rw[Zi,hws];exact Xj line 32 W (by omega) (by decide)
 have HSh:Zi (Ns ws):=by rw[Zi,hws];exact Qc 32 (by omega)
 have hL:ws.length≤line.size+1:=by rw[hws];exact Qr line 32
 have hpos:0<ws.length:=by rw[hws];exact Jd line 32
 have H:=Zd h;have HV:=Zd hV;have HN:Zi (n0≤W.1.size):=Nat.le_of_lt (Nat.lt_of_le_of_lt hn h.box.size);clear hws h hV;go_enter func83,ntmps83;go_wp2_with fail;refine HP.o.mono ?_;rintro e w1 ⟨⟨go,qc,rfl,hno,hF⟩,hb1⟩;obtain⟨g,rfl,hg1,hg2,hg3,_⟩:=hF.at hpos;have hcap:=hF.cap;have hI:=Zd hF.in;have d0:=Jf hI.o 0 hpos;have H1:=Zd (H.o.later hb1);have V1:=Zd (HV.o.step (hb1.mono HN.o));have HB1:=Zd hb1;have HQ:=Zd (Nat.le_of_lt H.o.box.size);obtain⟨x,hx⟩:=nmd (el ws 0);rw[←hx]at d0;have c1:=H1.o.box.c 1 rfl;have cz:=H1.o.box.size;have hgz:g<w1.1.size:=by omega
 have hpi:(0:Int)<(ws.length:Int):=by omega
 have HFR:=Zd hF;have HOLD:=Zd H.o.oldO;clear hF hno hb1 hg1 hg2 hg3;have hn0:x≠Xw:=by rw[hx];exact hw0
 have f0:(x.toList==[110,111,100,101])=false:=by
  have:x.toList≠Xw.toList:=fun e=>hn0 (Ze e)
  rw[show Xw.toList=[110,111,100,101]from by rw[Xw,Lib.toList_data]]at this
  simpa using this
 clear hx hw0 hn0;go_wp2_with fail;have HBG:=Zd (begin_any n0 q w1 o c us hi ea H1.o V1.o hn);refine HBG.o.mono ?_;rintro e wB ⟨⟨v,rfl⟩,hB⟩
 by_cases hb:Hz (us.map Zz)=0
 ·rw[if_pos hb]at hB;obtain⟨lo,p,bb,so,sc,xs,P2,S2⟩:=hB;have J1:=Zd P2;have SB:=Zd ((SStep.of_below (n:=q) (O:=OA q o) HB1.o HQ.o).trans S2);have VB:=Zd (V1.o.step (S2.low.mono hn));have hJ:=Zd ((HFR.o.keep fun k h1 _ h3=>S2.block k h3 fun hO=>by have:=HOLD.o k hO;omega).in);have HBD:=Zd hb;have HRG:Zi (RgI (begS' us).s):=RgI.zero P2.fit.1;clear P2 S2 hb HBG H1 V1 HB1 HQ HFR hI d0 c1 cz f0;have c3:=J1.o.box.c 3 rfl;have HCM:=Zd (Nl g 0 qc ws wB hpos (by omega) hcap HSh.o hJ.o VB.o.now.1 VB.o.now.2.1 VB.o.now.2.2.2.1);go_wp2_with fail;refine HCM.o.mono ?_;rintro e wC ⟨⟨lo2,lc2,rfl,hF2⟩,hb2⟩;have H2:=Zd (J1.o.later hb2);have V2:=Zd (VB.o.step (hb2.mono (Nat.le_of_lt (Nat.lt_of_le_of_lt hn J1.o.box.size))));have S2:=Zd (SB.o.trans (SStep.of_below hb2 (Nat.le_of_lt J1.o.box.size)));have hI2:=Zd hF2.in;obtain⟨R,hR⟩:=nmd (Df ws);have HGD:=Zd (fun hq=>cmdR_good (ws:=ws) hq);rw[←hR]at hI2 HGD ⊢;have HR2:=Zd hR;clear hR hF2 hb2 HCM c3;obtain⟨kd,l,gd⟩:=R;dsimp only at hI2 HGD ⊢
  cases gd with
  |false =>
   clear HGD hI2;go_wp2;refine bodyPost_ret (v:=.string ⟨#[119,104,97,116]⟩) (by simp[results,results83,go_sem]) rfl ?_;rw[AnsBR,if_pos HBD.o];refine⟨lo,p,so,sc,?_⟩;rw[Sz,runA,←HR2.o];exact⟨rfl,bb,xs,.slice none 0 0,.slice none 0 0,.slice none 0 0,H2.o,S2.o⟩
  |true =>
   obtain⟨k,hk,rfl,hl⟩:=HGD.o rfl;have HOB:=Zd (obey_any n0 q wC o c us hi lo p bb so sc xs (.slice none 0 0) (.slice none 0 0) (.slice none 0 0) (begS' us) ea H2.o rfl HRG.o V2.o hn lo2 lc2 k hk l hl hI2.o);obtain⟨A,hA⟩:=nmd (Jl (begS' us) ((k:Int)+1) l);rw[←hA]at HOB;have HA:=Zd hA;obtain⟨st2,T⟩:=A;dsimp only at HOB;clear hA HGD hl hI2;go_wp2_with fail;refine HOB.o.mono ?_;rintro e wD ⟨rfl,bb',xs',ev',fv',uv',P3,S3⟩;have HP3:=Zd P3;have HS3:=Zd (S2.o.trans S3);clear P3 S3 HOB;go_wp2;refine bodyPost_ret (v:=.string T) (by simp[results,results83,go_sem]) rfl ?_;rw[AnsBR,if_pos HBD.o];refine⟨lo,p,so,sc,?_⟩;rw[Sz,runA,←HR2.o];dsimp only;rw[←HA.o];exact⟨rfl,bb',xs',ev',fv',uv',HP3.o,HS3.o⟩
 ·rw[if_neg hb]at hB;have HBD:=Zd hb;have J1:=Zd hB.1;have SB:=Zd ((SStep.of_below (n:=q) (O:=OA q o) HB1.o HQ.o).trans hB.2);clear hB hb HBG H1 V1 HB1 HQ HFR hI d0 c1 cz f0;obtain⟨bad,hbad⟩:=nmd (Hz (us.map Zz));have HBQ:=Zd hbad;rw[←hbad]at J1;clear hbad;have c2:=J1.o.box.c 2 rfl;have c3:=J1.o.box.c 3 rfl;have cz:=J1.o.box.size;obtain⟨T,hT⟩:=nmd (refT bad);rw[←hT]at c2;have HT:=Zd hT;clear hT;go_wp2;refine bodyPost_ret (v:=.string T) (by simp[results,results83,go_sem]) rfl ?_;rw[AnsBR,if_neg HBD.o,←HBQ.o];exact⟨by rw[HT.o],J1.o,SB.o⟩
def ScW(q:Nat)(W:World)(st:SS)(O:Nat→Prop):Prop :=
 (st.bg=false∧∃o c us hi,PA q W o c us hi∧us.map Zz=st.gs∧O=OA q o)∨
 (st.bg=true∧st.bad≠0∧∃o c us hi,PB q W o c us hi st.bad∧us.map Zz=st.gs∧O=OB q)∨
 (st.bg=true∧st.bad=0∧∃o c us hi lo p bb so sc xs ev fv uv,PR q W o c us hi lo p bb so sc xs ev fv uv st.s st.n∧us.map Zz=st.gs∧RgI st.s∧O=OR q p bb xs ev fv uv)
def Hj(q:Nat)(W:World)(st:SS)(line:ByteArray)(O:Nat→Prop)(e:Ending)(W':World):Prop :=
 ∃O',e=.returned (.string (Lc st line).2)∧ScW q W' (Lc st line).1 O'∧SStep q O O' W W'
theorem runA_same(st:SS)(ws:List ByteArray):(runA st ws).1.gs=st.gs∧(runA st ws).1.bg=st.bg∧(runA st ws).1.bad=st.bad:=by
 unfold runA
 split
 ·exact Tc _ _ _
 ·exact⟨rfl,rfl,rfl⟩
theorem runA_rng(st:SS)(hR:RgI st.s)(hi:itB st.s.it)(ws:List ByteArray):RgI (runA st ws).1.s:=by
 unfold runA
 split
 ·exact obeyR_rng st hR hi _ _
 ·exact hR
theorem ansR_run(st:SS)(line:ByteArray)(h1:¬(st.bg=false∧el (Zw line 32) 0=Xw))(h2:(Nr st).bad=0):Lc st line=runA (Nr st) (Zw line 32):=by
 unfold Lc runA
 rw[if_neg h1,if_neg (by rw[h2];simp)]
 rfl
theorem ansR_bad(st:SS)(line:ByteArray)(h1:¬(st.bg=false∧el (Zw line 32) 0=Xw))(h2:(Nr st).bad≠0):Lc st line=(Nr st,refT (Nr st).bad):=by
 unfold Lc
 rw[if_neg h1,if_pos h2]
theorem begS_of{us:List LNode}{st:SS}(hb:st.bg=false)(hg:us.map Zz=st.gs):Nr st={ gs:=us.map Zz,bg:=true,bad:=Hz (us.map Zz),s:=pp0 us.length,n:=0 }:=by
 unfold Nr
 rw[if_neg (by rw[hb];decide),←hg,Zb]
theorem Tu{st:SS}(hb:st.bg=true):Nr st=st:=by
 unfold Nr
 rw[if_pos hb]
theorem PR.it{q:Nat}{W:World}{o:Option Addr}{c:Nat}{us:List LNode}{hi lo p bb:Nat}{so:Option Addr}{sc:Nat}{xs:List Value}{ev fv uv:Value}{s:PP}{n:Nat}(h:PR q W o c us hi lo p bb so sc xs ev fv uv s n):itB s.it:=by
 have:=h.sci.raw h.few;exact⟨this.it0,this.it1⟩
theorem answer_any(n0 q:Nat)(W:World)(st:SS)(O:Nat→Prop)(ea:Nat→Addr)(line:ByteArray)(h:ScW q W st O)(hs:line.size≤3000)(hV:Env n0 W ea)(hn:n0≤q) :
  Calls prog 83 #[.pointer (some ⟨q,0,none⟩),.string line] W (Hj q W st line O):=by
 rcases h with⟨hb,o,c,us,hi,hP,hg,rfl⟩|⟨hb,hbad,o,c,us,hi,hP,hg,rfl⟩|⟨hb,hbad,o,c,us,hi,lo,p,bb,so,sc,xs,ev,fv,uv,hP,hg,hR,rfl⟩
 ·by_cases hw:el (Zw line 32) 0=Xw
  ·refine(answer_add n0 q W o c us hi ea line _ rfl hP hs hV hn hw).mono ?_;rintro e W' ⟨rfl,o',c',us',hi',P',hu,hS⟩;have hlen:us.length=st.gs.length:=by rw[←hg,Zb]
   have ha:Lc st line=addR st line:=by unfold Lc;rw[if_pos ⟨hb,hw⟩]
   rw[Hj,ha];refine⟨OA q o',?_,?_,hS⟩
   ·unfold addR;rw[hlen];split <;> rfl
   ·unfold addR
    rw[hlen]at hu
    split
    ·rename_i h1;rw[if_pos h1]at hu;exact .inl ⟨hb,o',c',us',hi',P',by rw[hu,hg],rfl⟩
    ·rename_i h1;rw[if_neg h1]at hu;exact .inl ⟨hb,o',c',us',hi',P',by rw[hu,hg],rfl⟩
  ·have hbs:=begS_of hb hg;refine(answer_beg n0 q W o c us hi ea line _ rfl hP hs hV hn hw).mono ?_;intro e W' hA
   unfold AnsBR at hA
   by_cases h0:Hz (us.map Zz)=0
   ·rw[if_pos h0]at hA;obtain⟨lo,p,so,sc,he,bb,xs,ev,fv,uv,P',hS⟩:=hA;have hbe:Nr st=begS' us:=by rw[hbs,h0];rfl
    have hit:=P'.it;rw[Hj,ansR_run st line (fun hh=>hw hh.2) (by rw[hbe];rfl),hbe];obtain⟨r1,r2,r3⟩:=runA_same (begS' us) (Zw line 32);exact⟨_,he,.inr (.inr ⟨r2,r3,o,c,us,hi,lo,p,bb,so,sc,xs,ev,fv,uv,P',by rw[r1];rfl,runA_rng _ (RgI.zero P'.fit.1) ⟨by show(0:Int)≤0;omega,by show(0:Int)≤1000000;omega⟩ _,rfl⟩),hS⟩
   ·rw[if_neg h0]at hA;obtain⟨he,P',hS⟩:=hA;rw[Hj,ansR_bad st line (fun hh=>hw hh.2) (by rw[hbs];exact h0),hbs];exact⟨_,he,.inr (.inl ⟨rfl,h0,o,c,us,hi,P',rfl,rfl⟩),hS⟩
 ·have hno:¬(st.bg=false∧el (Zw line 32) 0=Xw):=fun hh=>by rw[hb]at hh;cases hh.1
  refine(answer_bad n0 q W o c us hi st.bad ea line _ rfl hP hs hV hn).mono ?_;rintro e W' ⟨he,P',hS⟩;rw[Hj,ansR_bad st line hno (by rw[Tu hb];exact hbad),Tu hb];exact⟨_,he,.inr (.inl ⟨hb,hbad,o,c,us,hi,P',hg,rfl⟩),hS⟩
 ·have hno:¬(st.bg=false∧el (Zw line 32) 0=Xw):=fun hh=>by rw[hb]at hh;cases hh.1
  refine(answer_run n0 q W o c us hi lo p bb so sc xs ev fv uv st ea line _ rfl hP hg hR hs hV hn).mono ?_;rintro e W' ⟨he,bb',xs',ev',fv',uv',P',hS⟩;have hit:=hP.it;rw[Hj,ansR_run st line hno (by rw[Tu hb];exact hbad),Tu hb];obtain⟨r1,r2,r3⟩:=runA_same st (Zw line 32);exact⟨_,he,.inr (.inr ⟨r2.trans hb,r3.trans hbad,o,c,us,hi,lo,p,bb',so,sc,xs',ev',fv',uv',P',by rw[r1];exact hg,runA_rng _ hR hit _,rfl⟩),hS⟩
structure FlowS(lo:Nat)(W:World)(p bb:Nat)(gv:Value)(xs:List Value)(ev fv uv:Value)(s:PP):Prop where
 box:Bx W p [gv,.int .i64 s.ti,.int .i64 s.it,.bool s.cl,.slice (some ⟨bb,0,none⟩) s.bx.length s.bx.length,ev,fv,uv]
 hnd:HandsT bb W xs s.bx
 emo:kOu.Own lo W ev s.em
 fao:kLo.Own lo W fv s.fa
 fuo:kI.Own lo W uv s.fu
 lop:lo≤p
 lob:lo≤bb
 pbb:p≠bb
 px:∀j,j<s.bx.length→(el xs j).ownBlock≠some p
 pe:ev.ownBlock≠some p
 pf:fv.ownBlock≠some p
 pu:uv.ownBlock≠some p
def FlS(lo:Nat)(W:World)(p:Nat)(gv:Value)(s:PP)(O:Nat→Prop):Prop:=∃bb xs ev fv uv,FlowS lo W p bb gv xs ev fv uv s∧∀b,FO p bb xs ev fv uv b→O b
def FStepS(lo p:Nat)(gv:Value)(O:Nat→Prop)(W W':World)(s':PP):Prop :=
 ∃O',FlS lo W' p gv s' O'∧(∀b,O' b→(O b∨W.1.size≤b))∧Below lo W W'∧∀b,b<W.1.size→¬O b→W'.heap[b]? = W.heap[b]?
theorem FlowS.later{lo:Nat}{W W':World}{p bb:Nat}{gv:Value}{xs:List Value}{ev fv uv:Value}{s:PP}(h:FlowS lo W p bb gv xs ev fv uv s)(hb:Below W.1.size W W'):FlowS lo W' p bb gv xs ev fv uv s :=
 ⟨h.box.later hb,h.hnd.later hb,h.emo.below hb,h.fao.below hb,h.fuo.below hb,h.lop,h.lob,h.pbb,h.px,h.pe,h.pf,h.pu⟩
theorem FStepS.trans{lo p:Nat}{gv:Value}{O:Nat→Prop}{W W1 W2:World}{s1 s2:PP}(h1:FStepS lo p gv O W W1 s1)(h2:∀O1,FlS lo W1 p gv s1 O1→FStepS lo p gv O1 W1 W2 s2):FStepS lo p gv O W W2 s2:=by
 obtain⟨O1,f1,s1',b1,k1⟩:=h1;obtain⟨O2,f2,s2',b2,k2⟩:=h2 O1 f1;have hs:=b1.size;refine⟨O2,f2,fun b hb=>?_,b1.trans b2,fun b hb hO=>?_⟩
 ·rcases s2' b hb with h|h
  ·exact s1' b h
  ·exact .inr (by omega)
 ·have hn:¬O1 b:=fun h=>by rcases s1' b h with h|h;exact hO h;omega
  exact(k2 b (by omega) hn).trans (k1 b hb hO)
theorem FStepS.later{lo p:Nat}{gv:Value}{O:Nat→Prop}{W W1 W2:World}{s:PP}(h:FStepS lo p gv O W W1 s)(hb:Below W1.1.size W1 W2)(hlo:lo≤W.1.size):FStepS lo p gv O W W2 s:=by
 obtain⟨O1,⟨bb,xs,ev,fv,uv,f,ho⟩,s1,b1,k1⟩:=h;have hs:=b1.size;exact⟨O1,⟨bb,xs,ev,fv,uv,f.later hb,ho⟩,s1,b1.trans (hb.mono (by omega)),fun b h1 h2=>(hb.block b (by omega)).trans (k1 b h1 h2)⟩
theorem FlowS.head{lo:Nat}{W:World}{p bb:Nat}{gv:Value}{xs:List Value}{ev fv uv:Value}{s:PP}(h:FlowS lo W p bb gv xs ev fv uv s){k:Nat}(hk:k<s.bx.length):W.cell? ⟨bb,k,none⟩=some (el xs k)∧W.frozen? ⟨bb,k,none⟩=false:=by
 have hx:k<xs.length:=by rw[h.hnd.len];exact hk
 refine⟨(h.hnd.head.cellAt k (by omega)).trans ?_,h.hnd.head.frozenAt k⟩
 simp[el,hx]
theorem FlowS.bbx{lo:Nat}{W:World}{p bb:Nat}{gv:Value}{xs:List Value}{ev fv uv:Value}{s:PP}(h:FlowS lo W p bb gv xs ev fv uv s){k:Nat}(hk:k<s.bx.length):(el xs k).ownBlock≠some bb:=fun e=>by
 have:=(Zj (h.hnd.row k hk) e).1;omega
theorem FlowS.apart{lo:Nat}{W:World}{p bb:Nat}{gv:Value}{xs:List Value}{ev fv uv:Value}{s:PP}(h:FlowS lo W p bb gv xs ev fv uv s){b:Nat}(hb:ev.ownBlock=some b∨fv.ownBlock=some b∨uv.ownBlock=some b) :
  b<W.1.size∧b≠p∧b≠bb∧∀j,j<s.bx.length→(el xs j).ownBlock≠some b:=by
 rcases hb with hb|hb|hb
 ·exact⟨(Zj h.emo hb).2,fun e=>h.pe (by rw[←e];exact hb),fun e=>Xp h.emo h.hnd.head (by decide) (by rw[←e];exact hb),fun j hj=>Xm h.emo (h.hnd.row j hj) (by decide) hb⟩
 ·exact⟨(Zj h.fao hb).2,fun e=>h.pf (by rw[←e];exact hb),fun e=>Xp h.fao h.hnd.head (by decide) (by rw[←e];exact hb),fun j hj=>Xm h.fao (h.hnd.row j hj) (by decide) hb⟩
 ·exact⟨(Zj h.fuo hb).2,fun e=>h.pu (by rw[←e];exact hb),fun e=>Xp h.fuo h.hnd.head (by decide) (by rw[←e];exact hb),fun j hj=>Xm h.fuo (h.hnd.row j hj) (by decide) hb⟩
theorem FlowS.turn{lo:Nat}{W W':World}{p bb:Nat}{gv:Value}{xs xs':List Value}{ev fv uv:Value}{s:PP}{bx':List (List (Int×Int×Int))}{ti' it':Int}{cl':Bool}(h:FlowS lo W p bb gv xs ev fv uv s)
  (hbox:Bx W' p [gv,.int .i64 ti',.int .i64 it',.bool cl',.slice (some ⟨bb,0,none⟩) bx'.length bx'.length,ev,fv,uv]) (hh:HandsT bb W' xs' bx')
  (hk:∀b,(ev.ownBlock=some b∨fv.ownBlock=some b∨uv.ownBlock=some b)→W'.heap[b]? = W.heap[b]?) (hp:∀j,j<bx'.length→(el xs' j).ownBlock≠some p) :
  FlowS lo W' p bb gv xs' ev fv uv { ti:=ti',it:=it',cl:=cl',bx:=bx',em:=s.em,fa:=s.fa,fu:=s.fu } :=
 ⟨hbox,hh,Za h.emo fun b hb=>hk b (.inl hb),Za h.fao fun b hb=>hk b (.inr (.inl hb)),Za h.fuo fun b hb=>hk b (.inr (.inr hb)),h.lop,h.lob,h.pbb,hp,h.pe,h.pf,h.pu⟩
theorem FlowS.setFar{lo:Nat}{W:World}{p bb:Nat}{gv:Value}{xs:List Value}{ev fv uv:Value}{s:PP}(h:FlowS lo W p bb gv xs ev fv uv s){a:Addr}(ha:¬FO p bb xs ev fv uv a.block)(u:Value):FlowS lo (W.setCell a u) p bb gv xs ev fv uv s:=by
 have hk:∀b,FO p bb xs ev fv uv b→(W.setCell a u).heap[b]? = W.heap[b]? := fun b hb=>Below.heap_setCell _ _ _ _ (fun e=>ha (by rw[←e];exact hb))
 exact⟨h.box.other (fun e=>ha (.inl e)) u,h.hnd.keep (hk bb (.inr (.inl rfl))) (fun j hj b hb=>hk b (.inr (.inr (.inl ⟨j,by rw[h.hnd.len];exact hj,hb⟩)))),Za h.emo fun b hb=>hk b (.inr (.inr (.inr (.inl hb)))),Za h.fao fun b hb=>hk b (.inr (.inr (.inr (.inr (.inl hb))))),Za h.fuo fun b hb=>hk b (.inr (.inr (.inr (.inr (.inr hb))))),h.lop,h.lob,h.pbb,h.px,h.pe,h.pf,h.pu⟩
theorem FlowS.old{lo:Nat}{W:World}{p bb:Nat}{gv:Value}{xs:List Value}{ev fv uv:Value}{s:PP}(h:FlowS lo W p bb gv xs ev fv uv s){b:Nat}(hb:FO p bb xs ev fv uv b):b<W.1.size:=by
 rcases hb with rfl|rfl|⟨j,hj,hb⟩|hb
 ·exact h.box.size
 ·exact h.hnd.size
 ·exact(Zj (h.hnd.row j (by rw[←h.hnd.len];exact hj)) hb).2
 ·exact(h.apart hb).1
theorem FlowS.far{lo:Nat}{W:World}{p bb:Nat}{gv:Value}{xs:List Value}{ev fv uv:Value}{s:PP}(h:FlowS lo W p bb gv xs ev fv uv s){b:Nat}(hb:W.1.size≤b):¬FO p bb xs ev fv uv b:=fun hO=>by have:=h.old hO;omega
structure FX(lo p:Nat)(gv:Value)(O:Nat→Prop)(W W':World)(bb:Nat)(xs:List Value)(ev fv uv:Value)(s:PP):Prop where
 flow:FlowS lo W' p bb gv xs ev fv uv s
 old:∀b,FO p bb xs ev fv uv b→O b∨W.1.size≤b
 low:Below lo W W'
 kept:∀b,b<W.1.size→¬O b→W'.heap[b]? = W.heap[b]?
theorem FX.step{lo p:Nat}{gv:Value}{O:Nat→Prop}{W W':World}{bb:Nat}{xs:List Value}{ev fv uv:Value}{s:PP}(h:FX lo p gv O W W' bb xs ev fv uv s):FStepS lo p gv O W W' s :=
 ⟨_,⟨bb,xs,ev,fv,uv,h.flow,fun _ hb=>hb⟩,h.old,h.low,h.kept⟩
theorem FStepS.fx{lo p:Nat}{gv:Value}{O:Nat→Prop}{W W':World}{s:PP}(h:FStepS lo p gv O W W' s):∃bb xs ev fv uv,FX lo p gv O W W' bb xs ev fv uv s:=by
 obtain⟨O',⟨bb,xs,ev,fv,uv,F,hF⟩,hs,hb,hk⟩:=h;exact⟨bb,xs,ev,fv,uv,F,fun b h1=>hs b (hF b h1),hb,hk⟩
theorem FX.refl{lo p:Nat}{gv:Value}{W:World}{bb:Nat}{xs:List Value}{ev fv uv:Value}{s:PP}(h:FlowS lo W p bb gv xs ev fv uv s):FX lo p gv (FO p bb xs ev fv uv) W W bb xs ev fv uv s :=
 ⟨h,fun _ hb=>.inl hb,Below.refl _ _,fun _ _ _=>rfl⟩
theorem FlowS.lo_le{lo p:Nat}{gv:Value}{W:World}{bb:Nat}{xs:List Value}{ev fv uv:Value}{s:PP}(h:FlowS lo W p bb gv xs ev fv uv s):lo≤W.1.size:=Nat.le_of_lt (Nat.lt_of_le_of_lt h.lop h.box.size)
theorem FX.later{lo p:Nat}{gv:Value}{O:Nat→Prop}{W W1 V:World}{bb:Nat}{xs:List Value}{ev fv uv:Value}{s:PP}(h:FX lo p gv O W W1 bb xs ev fv uv s)(hb:Below W1.1.size W1 V):FX lo p gv O W V bb xs ev fv uv s :=
 ⟨h.flow.later hb,h.old,h.low.trans (hb.mono h.flow.lo_le),fun b h1 h2=>(hb.block b (Nat.lt_of_lt_of_le h1 h.low.size)).trans (h.kept b h1 h2)⟩
theorem FX.trans{lo p:Nat}{gv:Value}{O:Nat→Prop}{W W1 W2:World}{bb bb2:Nat}{xs xs2:List Value}{ev fv uv ev2 fv2 uv2:Value}{s s2:PP}(h:FX lo p gv O W W1 bb xs ev fv uv s)(h2:FX lo p gv (FO p bb xs ev fv uv) W1 W2 bb2 xs2 ev2 fv2 uv2 s2):FX lo p gv O W W2 bb2 xs2 ev2 fv2 uv2 s2:=by
 have hz:=h.low.size;refine⟨h2.flow,fun b h1=>?_,h.low.trans h2.low,fun b h1 h3=>?_⟩
 ·rcases h2.old b h1 with h4|h4
  ·exact h.old b h4
  ·exact .inr (by omega)
 ·have hn:¬FO p bb xs ev fv uv b:=fun h4=>by
   rcases h.old b h4 with h5|h5
   ·exact h3 h5
   ·omega
  exact(h2.kept b (by omega) hn).trans (h.kept b h1 h3)
theorem FX.start{lo:Nat}{W V W2:World}{p bb bb2:Nat}{gv:Value}{xs xs2:List Value}{ev fv uv ev2 fv2 uv2:Value}{s s2:PP}(h:FlowS lo W p bb gv xs ev fv uv s)(hb:Below W.1.size W V)(h2:FX lo p gv (FO p bb xs ev fv uv) V W2 bb2 xs2 ev2 fv2 uv2 s2):FX lo p gv (FO p bb xs ev fv uv) W W2 bb2 xs2 ev2 fv2 uv2 s2 :=
 ((FX.refl h).later hb).trans h2
theorem FStepS.next{lo p:Nat}{gv:Value}{O:Nat→Prop}{W W1:World}{s1:PP}(h:FStepS lo p gv O W W1 s1) :
  ∃bb xs ev fv uv,FlowS lo W1 p bb gv xs ev fv uv s1∧(∀b,b<W.1.size→¬O b→W1.heap[b]? = W.heap[b]?)∧Below lo W W1∧(∀b,FO p bb xs ev fv uv b→O b∨W.1.size≤b)∧
   ∀(V W2:World)(s2:PP),Below W1.1.size W1 V→FStepS lo p gv (FO p bb xs ev fv uv) V W2 s2→FStepS lo p gv O W W2 s2:=by
 obtain⟨O1,⟨bb,xs,ev,fv,uv,F,hF⟩,hs,hb,hk⟩:=h;refine⟨bb,xs,ev,fv,uv,F,hk,hb,fun b h1=>hs b (hF b h1),fun V W2 s2 hV h2=>?_⟩;obtain⟨O2,f2,hs2,hb2,hk2⟩:=h2;have hz:=hb.size;have hzV:=hV.size;have hlo:lo≤W1.1.size:=Nat.le_of_lt (Nat.lt_of_le_of_lt F.lop F.box.size);refine⟨O2,f2,fun b h1=>?_,hb.trans ((hV.mono hlo).trans hb2),fun b h1 h3=>?_⟩
 ·rcases hs2 b h1 with h4|h4
  ·exact hs b (hF b h4)
  ·exact .inr (by omega)
 ·have hn:¬FO p bb xs ev fv uv b:=fun h4=>by
   rcases hs b (hF b h4)with h5|h5
   ·exact h3 h5
   ·omega
  exact(hk2 b (by omega) hn).trans ((hV.block b (by omega)).trans (hk b h1 h3))
theorem FlowS.putEm{lo:Nat}{U w2:World}{p bb:Nat}{gv:Value}{xs:List Value}{ev fv uv v':Value}{s:PP}{L:_}(h:FlowS lo U p bb gv xs ev fv uv s)(hO:kOu.Own lo w2 v' L)(hB:Below lo U w2)(hG:U.grownBy w2 ev.ownBlock)(hw:∀g,v'.ownBlock=some g→ev.ownBlock=some g∨U.1.size≤g) :
  FX lo p gv (FO p bb xs ev fv uv) U (w2.setCell ⟨p,5,none⟩ v') bb xs v' fv uv { s with em:=L }:=by
 have hp:=h.box.size;have kp:w2.heap[p]? = U.heap[p]? := hG.block p hp (fun e=>h.pe e.symm);have hpv:v'.ownBlock≠some p:=fun e=>by
  rcases hw p e with h1|h1
  ·exact h.pe h1
  ·omega
 have hkp:∀b,b<U.1.size→b≠p→ev.ownBlock≠some b→(w2.setCell ⟨p,5,none⟩ v').heap[b]? = U.heap[b]? := fun b h1 h2 h3=>(Below.heap_setCell _ _ _ _ h2).trans (hG.block b h1 (fun e=>h3 e.symm))
 have hme:∀b,ev.ownBlock=some b→b<U.1.size∧b≠p∧b≠bb∧∀j,j<s.bx.length→(el xs j).ownBlock≠some b:=fun b hb=>h.apart (.inl hb)
 refine⟨⟨(h.box.keep hG.size kp).set 5 v',h.hnd.keep (hkp bb h.hnd.size (fun e=>h.pbb e.symm) (fun e=>(hme bb e).2.2.1 rfl)) (fun j hj b hb=>hkp b (Zj (h.hnd.row j hj) hb).2 (fun e=>h.px j hj (by rw[←e];exact hb)) (fun e=>(hme b e).2.2.2 j hj hb)),Za hO fun b hb=>Below.heap_setCell _ _ _ _ (fun e=>hpv (by have e':b=p:=e;rw[←e'];exact hb)),Za h.fao fun b hb=>hkp b (Zj h.fao hb).2 (fun e=>h.pf (by rw[←e];exact hb)) (Xm h.fao h.emo (by decide) hb),Za h.fuo fun b hb=>hkp b (Zj h.fuo hb).2 (fun e=>h.pu (by rw[←e];exact hb)) (Xm h.fuo h.emo (by decide) hb),h.lop,h.lob,h.pbb,h.px,hpv,h.pf,h.pu⟩,fun b hb=>?_,hB.setCell (p:=⟨p,5,none⟩) h.lop _,fun b hb hO=>hkp b hb (fun e=>hO (.inl e)) (fun e=>hO (.inr (.inr (.inr (.inl e)))))⟩
 rcases hb with hb|hb|hb|hb|hb|hb
 ·exact .inl (.inl hb)
 ·exact .inl (.inr (.inl hb))
 ·exact .inl (.inr (.inr (.inl hb)))
 ·rcases hw b hb with hb|h1
  ·exact .inl (.inr (.inr (.inr (.inl hb))))
  ·exact .inr h1
 ·exact .inl (.inr (.inr (.inr (.inr (.inl hb)))))
 ·exact .inl (.inr (.inr (.inr (.inr (.inr hb)))))
theorem FlowS.putFa{lo:Nat}{U w2:World}{p bb:Nat}{gv:Value}{xs:List Value}{ev fv uv v':Value}{s:PP}{L:_}(h:FlowS lo U p bb gv xs ev fv uv s)(hO:kLo.Own lo w2 v' L)(hB:Below lo U w2)(hG:U.grownBy w2 fv.ownBlock)(hw:∀g,v'.ownBlock=some g→fv.ownBlock=some g∨U.1.size≤g) :
  FX lo p gv (FO p bb xs ev fv uv) U (w2.setCell ⟨p,6,none⟩ v') bb xs ev v' uv { s with fa:=L }:=by
 have hp:=h.box.size;have kp:w2.heap[p]? = U.heap[p]? := hG.block p hp (fun e=>h.pf e.symm);have hpv:v'.ownBlock≠some p:=fun e=>by
  rcases hw p e with h1|h1
  ·exact h.pf h1
  ·omega
 have hkp:∀b,b<U.1.size→b≠p→fv.ownBlock≠some b→(w2.setCell ⟨p,6,none⟩ v').heap[b]? = U.heap[b]? := fun b h1 h2 h3=>(Below.heap_setCell _ _ _ _ h2).trans (hG.block b h1 (fun e=>h3 e.symm))
 have hme:∀b,fv.ownBlock=some b→b<U.1.size∧b≠p∧b≠bb∧∀j,j<s.bx.length→(el xs j).ownBlock≠some b:=fun b hb=>h.apart (.inr (.inl hb))
 refine⟨⟨(h.box.keep hG.size kp).set 6 v',h.hnd.keep (hkp bb h.hnd.size (fun e=>h.pbb e.symm) (fun e=>(hme bb e).2.2.1 rfl)) (fun j hj b hb=>hkp b (Zj (h.hnd.row j hj) hb).2 (fun e=>h.px j hj (by rw[←e];exact hb)) (fun e=>(hme b e).2.2.2 j hj hb)),Za h.emo fun b hb=>hkp b (Zj h.emo hb).2 (fun e=>h.pe (by rw[←e];exact hb)) (Xm h.emo h.fao (by decide) hb),Za hO fun b hb=>Below.heap_setCell _ _ _ _ (fun e=>hpv (by have e':b=p:=e;rw[←e'];exact hb)),Za h.fuo fun b hb=>hkp b (Zj h.fuo hb).2 (fun e=>h.pu (by rw[←e];exact hb)) (Xm h.fuo h.fao (by decide) hb),h.lop,h.lob,h.pbb,h.px,h.pe,hpv,h.pu⟩,fun b hb=>?_,hB.setCell (p:=⟨p,6,none⟩) h.lop _,fun b hb hO=>hkp b hb (fun e=>hO (.inl e)) (fun e=>hO (.inr (.inr (.inr (.inr (.inl e))))))⟩
 rcases hb with hb|hb|hb|hb|hb|hb
 ·exact .inl (.inl hb)
 ·exact .inl (.inr (.inl hb))
 ·exact .inl (.inr (.inr (.inl hb)))
 ·exact .inl (.inr (.inr (.inr (.inl hb))))
 ·rcases hw b hb with hb|h1
  ·exact .inl (.inr (.inr (.inr (.inr (.inl hb)))))
  ·exact .inr h1
 ·exact .inl (.inr (.inr (.inr (.inr (.inr hb)))))
theorem FlowS.putFu{lo:Nat}{U w2:World}{p bb:Nat}{gv:Value}{xs:List Value}{ev fv uv v':Value}{s:PP}{L:_}(h:FlowS lo U p bb gv xs ev fv uv s)(hO:kI.Own lo w2 v' L)(hB:Below lo U w2)(hG:U.grownBy w2 uv.ownBlock)(hw:∀g,v'.ownBlock=some g→uv.ownBlock=some g∨U.1.size≤g) :
  FX lo p gv (FO p bb xs ev fv uv) U (w2.setCell ⟨p,7,none⟩ v') bb xs ev fv v' { s with fu:=L }:=by
 have hp:=h.box.size;have kp:w2.heap[p]? = U.heap[p]? := hG.block p hp (fun e=>h.pu e.symm);have hpv:v'.ownBlock≠some p:=fun e=>by
  rcases hw p e with h1|h1
  ·exact h.pu h1
  ·omega
 have hkp:∀b,b<U.1.size→b≠p→uv.ownBlock≠some b→(w2.setCell ⟨p,7,none⟩ v').heap[b]? = U.heap[b]? := fun b h1 h2 h3=>(Below.heap_setCell _ _ _ _ h2).trans (hG.block b h1 (fun e=>h3 e.symm))
 have hme:∀b,uv.ownBlock=some b→b<U.1.size∧b≠p∧b≠bb∧∀j,j<s.bx.length→(el xs j).ownBlock≠some b:=fun b hb=>h.apart (.inr (.inr hb))
 refine⟨⟨(h.box.keep hG.size kp).set 7 v',h.hnd.keep (hkp bb h.hnd.size (fun e=>h.pbb e.symm) (fun e=>(hme bb e).2.2.1 rfl)) (fun j hj b hb=>hkp b (Zj (h.hnd.row j hj) hb).2 (fun e=>h.px j hj (by rw[←e];exact hb)) (fun e=>(hme b e).2.2.2 j hj hb)),Za h.emo fun b hb=>hkp b (Zj h.emo hb).2 (fun e=>h.pe (by rw[←e];exact hb)) (Xm h.emo h.fuo (by decide) hb),Za h.fao fun b hb=>hkp b (Zj h.fao hb).2 (fun e=>h.pf (by rw[←e];exact hb)) (Xm h.fao h.fuo (by decide) hb),Za hO fun b hb=>Below.heap_setCell _ _ _ _ (fun e=>hpv (by have e':b=p:=e;rw[←e'];exact hb)),h.lop,h.lob,h.pbb,h.px,h.pe,h.pf,hpv⟩,fun b hb=>?_,hB.setCell (p:=⟨p,7,none⟩) h.lop _,fun b hb hO=>hkp b hb (fun e=>hO (.inl e)) (fun e=>hO (.inr (.inr (.inr (.inr (.inr e))))))⟩
 rcases hb with hb|hb|hb|hb|hb|hb
 ·exact .inl (.inl hb)
 ·exact .inl (.inr (.inl hb))
 ·exact .inl (.inr (.inr (.inl hb)))
 ·exact .inl (.inr (.inr (.inr (.inl hb))))
 ·exact .inl (.inr (.inr (.inr (.inr (.inl hb)))))
 ·rcases hw b hb with hb|h1
  ·exact .inl (.inr (.inr (.inr (.inr (.inr hb)))))
  ·exact .inr h1
theorem FlowS.putTi{lo:Nat}{U:World}{p bb:Nat}{gv:Value}{xs:List Value}{ev fv uv:Value}{s:PP}(h:FlowS lo U p bb gv xs ev fv uv s)(x:Int) :
  FX lo p gv (FO p bb xs ev fv uv) U (U.setCell ⟨p,1,none⟩ (.int .i64 x)) bb xs ev fv uv { s with ti:=x }:=by
 have hkp:∀b,b≠p→(U.setCell ⟨p,1,none⟩ (.int .i64 x)).heap[b]? = U.heap[b]? := fun b h2=>Below.heap_setCell _ _ _ _ h2
 exact⟨⟨h.box.set 1 _,h.hnd.keep (hkp bb (fun e=>h.pbb e.symm)) (fun j hj b hb=>hkp b (fun e=>h.px j hj (by rw[←e];exact hb))),Za h.emo fun b hb=>hkp b (fun e=>h.pe (by rw[←e];exact hb)),Za h.fao fun b hb=>hkp b (fun e=>h.pf (by rw[←e];exact hb)),Za h.fuo fun b hb=>hkp b (fun e=>h.pu (by rw[←e];exact hb)),h.lop,h.lob,h.pbb,h.px,h.pe,h.pf,h.pu⟩,fun b hb=>.inl hb,(Below.refl _ _).setCell (p:=⟨p,1,none⟩) h.lop _,fun b _ hO=>hkp b (fun e=>hO (.inl e))⟩
theorem FlowS.putIt{lo:Nat}{U:World}{p bb:Nat}{gv:Value}{xs:List Value}{ev fv uv:Value}{s:PP}(h:FlowS lo U p bb gv xs ev fv uv s)(x:Int) :
  FX lo p gv (FO p bb xs ev fv uv) U (U.setCell ⟨p,2,none⟩ (.int .i64 x)) bb xs ev fv uv { s with it:=x }:=by
 have hkp:∀b,b≠p→(U.setCell ⟨p,2,none⟩ (.int .i64 x)).heap[b]? = U.heap[b]? := fun b h2=>Below.heap_setCell _ _ _ _ h2
 exact⟨⟨h.box.set 2 _,h.hnd.keep (hkp bb (fun e=>h.pbb e.symm)) (fun j hj b hb=>hkp b (fun e=>h.px j hj (by rw[←e];exact hb))),Za h.emo fun b hb=>hkp b (fun e=>h.pe (by rw[←e];exact hb)),Za h.fao fun b hb=>hkp b (fun e=>h.pf (by rw[←e];exact hb)),Za h.fuo fun b hb=>hkp b (fun e=>h.pu (by rw[←e];exact hb)),h.lop,h.lob,h.pbb,h.px,h.pe,h.pf,h.pu⟩,fun b hb=>.inl hb,(Below.refl _ _).setCell (p:=⟨p,2,none⟩) h.lop _,fun b _ hO=>hkp b (fun e=>hO (.inl e))⟩
theorem FlowS.putCl{lo:Nat}{U:World}{p bb:Nat}{gv:Value}{xs:List Value}{ev fv uv:Value}{s:PP}(h:FlowS lo U p bb gv xs ev fv uv s)(x:Bool) :
  FX lo p gv (FO p bb xs ev fv uv) U (U.setCell ⟨p,3,none⟩ (.bool x)) bb xs ev fv uv { s with cl:=x }:=by
 have hkp:∀b,b≠p→(U.setCell ⟨p,3,none⟩ (.bool x)).heap[b]? = U.heap[b]? := fun b h2=>Below.heap_setCell _ _ _ _ h2
 exact⟨⟨h.box.set 3 _,h.hnd.keep (hkp bb (fun e=>h.pbb e.symm)) (fun j hj b hb=>hkp b (fun e=>h.px j hj (by rw[←e];exact hb))),Za h.emo fun b hb=>hkp b (fun e=>h.pe (by rw[←e];exact hb)),Za h.fao fun b hb=>hkp b (fun e=>h.pf (by rw[←e];exact hb)),Za h.fuo fun b hb=>hkp b (fun e=>h.pu (by rw[←e];exact hb)),h.lop,h.lob,h.pbb,h.px,h.pe,h.pf,h.pu⟩,fun b hb=>.inl hb,(Below.refl _ _).setCell (p:=⟨p,3,none⟩) h.lop _,fun b _ hO=>hkp b (fun e=>hO (.inl e))⟩
theorem FStepS.refl{lo:Nat}{W:World}{p bb:Nat}{gv:Value}{xs:List Value}{ev fv uv:Value}{s:PP}(h:FlowS lo W p bb gv xs ev fv uv s):FStepS lo p gv (FO p bb xs ev fv uv) W W s :=
 ⟨_,⟨bb,xs,ev,fv,uv,h,fun _ hb=>hb⟩,fun _ hb=>.inl hb,Below.refl _ _,fun _ _ _=>rfl⟩
theorem FStepS.start{lo:Nat}{W V W2:World}{p bb:Nat}{gv:Value}{xs:List Value}{ev fv uv:Value}{s s2:PP}(h:FlowS lo W p bb gv xs ev fv uv s)(hb:Below W.1.size W V)(h2:FStepS lo p gv (FO p bb xs ev fv uv) V W2 s2):FStepS lo p gv (FO p bb xs ev fv uv) W W2 s2:=by
 obtain⟨O2,f2,hs2,hb2,hk2⟩:=h2;have hlo:lo≤W.1.size:=Nat.le_of_lt (Nat.lt_of_le_of_lt h.lop h.box.size);have hz:=hb.size;refine⟨O2,f2,fun b h1=>?_,(hb.mono hlo).trans hb2,fun b h1 h3=>(hk2 b (by omega) h3).trans (hb.block b h1)⟩
 rcases hs2 b h1 with h4|h4
 ·exact .inl h4
 ·exact .inr (by omega)
theorem FStepS.same{lo:Nat}{W V:World}{p bb:Nat}{gv:Value}{xs:List Value}{ev fv uv:Value}{s:PP}(h:FlowS lo W p bb gv xs ev fv uv s)(hb:Below W.1.size W V):FStepS lo p gv (FO p bb xs ev fv uv) W V s:=FStepS.start h hb (FStepS.refl (h.later hb))
theorem FlowS.putTry{lo:Nat}{U:World}{p bb g c k:Nat}{gv:Value}{xs:List Value}{ev fv uv:Value}{s:PP}{t1 t2 t3:Int}{r:List (Int×Int×Int)}(h:FlowS lo U p bb gv xs ev fv uv s)(hk:k<s.bx.length)(hr:el s.bx k=(t1,t2,t3)::r)(hg:el xs k=.slice (some ⟨g,0,none⟩) (r.length+1) c)(x:Int) :
  FlowS lo (U.setCell ⟨g,2,none⟩ (.int .i64 x)) p bb gv xs ev fv uv { s with bx:=s.bx.set k ((t1,t2,x)::r) }:=by
 have hgo:(el xs k).ownBlock=some g:=by rw[hg];rfl
 have hkp:∀b,b≠g→(U.setCell ⟨g,2,none⟩ (.int .i64 x)).heap[b]? = U.heap[b]? := fun b hb=>Below.heap_setCell _ _ _ _ hb
 have hrow:=h.hnd.row k hk;rw[hr,hg]at hrow;have hst:kTk.Own (bb+1) (U.setCell ⟨g,2,none⟩ (.int .i64 x)) (.slice (some ⟨g,0,none⟩) (r.length+1) c) ((t1,t2,x)::r):=by
  have:=(World.ownsRow.stored (h:=hrow) 2 (.int .i64 x)).1;exact this
 have hlen:(s.bx.set k ((t1,t2,x)::r)).length=s.bx.length:=List.length_set;have hT:(Zs (s.bx.set k ((t1,t2,x)::r)):Int)=Zs s.bx:=by
  have:=Jb (ls:=s.bx) (k:=k) ((t1,t2,x)::r) hk;rw[hr]at this;simp only[List.length_cons]at this
  omega
 refine h.turn ?_ ⟨by rw[hlen];exact h.hnd.len,?_,fun j hj=>?_,fun i j hij hj=>h.hnd.off i j hij (by rw[hlen]at hj;exact hj)⟩ (fun b hb=>hkp b (fun e=>(h.apart hb).2.2.2 k hk (by rw[e];exact hgo))) (fun j hj=>h.px j (by rw[hlen]at hj;exact hj))
 ·rw[hlen];exact h.box.other (fun e=>h.px k hk (by rw[←e];exact hgo)) _
 ·rw[hlen];exact Ji h.hnd.head (hkp bb (fun e=>h.bbx hk (by rw[e];exact hgo)))
 ·rw[hlen]at hj
  by_cases e:j=k
  ·subst e;rw[Zh hk,hg];exact hst
  ·rw[Zm e];refine Za (h.hnd.row j hj) fun b hb=>hkp b (fun e2=>?_)
   rw[e2]at hb
   rcases Nat.lt_or_ge j k with hjk|hjk
   ·exact h.hnd.off j k hjk hk g hb hgo
   ·exact h.hnd.off k j (by omega) hj g hgo hb
theorem FlowS.keep{lo:Nat}{W W':World}{p bb:Nat}{gv:Value}{xs:List Value}{ev fv uv:Value}{s:PP}(h:FlowS lo W p bb gv xs ev fv uv s)(hs:W.1.size≤W'.1.size)(hk:∀b,FO p bb xs ev fv uv b→W'.heap[b]? = W.heap[b]?):FlowS lo W' p bb gv xs ev fv uv s :=
 ⟨h.box.keep hs (hk p (.inl rfl)),h.hnd.keep (hk bb (.inr (.inl rfl))) (fun j hj b hb=>hk b (.inr (.inr (.inl ⟨j,by rw[h.hnd.len];exact hj,hb⟩)))),Za h.emo (fun b hb=>hk b (.inr (.inr (.inr (.inl hb))))),Za h.fao (fun b hb=>hk b (.inr (.inr (.inr (.inr (.inl hb)))))),Za h.fuo (fun b hb=>hk b (.inr (.inr (.inr (.inr (.inr hb)))))),h.lop,h.lob,h.pbb,h.px,h.pe,h.pf,h.pu⟩
theorem FStepS.codes{lo p:Nat}{gv:Value}{W W1:World}{bb:Nat}{xs:List Value}{ev fv uv:Value}{s:PP}{v:Value}{l:List Int}(h:FStepS lo p gv (FO p bb xs ev fv uv) W W1 s)(ho:kI.Own lo W v l)(ha:∀b,v.ownBlock=some b→¬FO p bb xs ev fv uv b) :
  ∃bb2 xs2 ev2 fv2 uv2,FlowS lo W1 p bb2 gv xs2 ev2 fv2 uv2 s∧kI.Own lo W1 v l∧(∀b,v.ownBlock=some b→¬FO p bb2 xs2 ev2 fv2 uv2 b)∧Below lo W W1:=by
 obtain⟨bb2,xs2,ev2,fv2,uv2,F,hk,hb,hn,_⟩:=h.next;refine⟨bb2,xs2,ev2,fv2,uv2,F,Za ho (fun b hb2=>hk b (Zj ho hb2).2 (ha b hb2)),fun b hb2 hO=>?_,hb⟩
 rcases hn b hO with h1|h1
 ·exact ha b hb2 h1
 ·have:=(Zj ho hb2).2;omega
theorem FlowS.code{lo:Nat}{W W':World}{p bb:Nat}{gv:Value}{xs:List Value}{ev fv uv:Value}{s:PP}{v v':Value}(h:FlowS lo W p bb gv xs ev fv uv s)(ha:∀b,v.ownBlock=some b→¬FO p bb xs ev fv uv b)(hg:W.grownBy W' v.ownBlock)(hw:∀b,v'.ownBlock=some b→v.ownBlock=some b∨W.1.size≤b) :
  FlowS lo W' p bb gv xs ev fv uv s∧(∀b,v'.ownBlock=some b→¬FO p bb xs ev fv uv b):=by
 refine⟨h.keep hg.size fun b hb=>hg.block b (h.old hb) (fun e=>ha b e.symm hb),fun b hb hO=>?_⟩
 rcases hw b hb with h1|h1
 ·exact ha b h1 hO
 ·have:=h.old hO;omega
theorem FlowS.putRow{lo:Nat}{U w2:World}{p bb k:Nat}{gv:Value}{xs:List Value}{ev fv uv v':Value}{s:PP}{L:List (Int×Int×Int)}(h:FlowS lo U p bb gv xs ev fv uv s)(hk:k<s.bx.length)(hO:kTk.Own (bb+1) w2 v' L)(hB:Below lo U w2)(hG:U.grownBy w2 (el xs k).ownBlock)(hw:∀b,v'.ownBlock=some b→(el xs k).ownBlock=some b∨U.1.size≤b) :
  FX lo p gv (FO p bb xs ev fv uv) U (w2.setCell ⟨bb,k,none⟩ v') bb (xs.set k v') ev fv uv { s with bx:=s.bx.set k L }:=by
 have hp:=h.box.size;have hbb:=h.hnd.size;have hxk:k<xs.length:=by rw[h.hnd.len];exact hk
 have kp:w2.heap[p]? = U.heap[p]? := hG.block p hp (fun e=>h.px k hk e.symm);have hpw:∀j,j<(s.bx.set k L).length→(el (xs.set k v') j).ownBlock≠some p:=fun j hj=>by
  rw[List.length_set]at hj
  by_cases e:j=k
  ·subst e;rw[Zh hxk];intro hb
   rcases hw p hb with h1|h1
   ·exact h.px j hk h1
   ·omega
  ·rw[Zm e];exact h.px j hj
 have hnd3:HandsT bb (w2.setCell ⟨bb,k,none⟩ v') (xs.set k v') (s.bx.set k L):=h.hnd.put hk hO hG hw;have hbx3:=(h.box.keep hG.size kp).other (a:=⟨bb,k,none⟩) (fun e=>h.pbb e.symm) v';have hkeep:∀b,b<U.1.size→b≠bb→(el xs k).ownBlock≠some b→(w2.setCell ⟨bb,k,none⟩ v').heap[b]? = U.heap[b]? := fun b h1 h3 h4=>by
  rw[Below.heap_setCell _ _ _ _ h3];exact hG.block b h1 (fun e=>h4 e.symm)
 refine⟨h.turn ?_ hnd3 (fun b hb=>?_) hpw,fun b hb=>?_,hB.setCell (p:=⟨bb,k,none⟩) h.lob _,fun b hb hO=>?_⟩
 ·rw[List.length_set];exact hbx3
 ·obtain⟨a1,a2,a3,a4⟩:=h.apart hb;exact hkeep b a1 a3 (a4 k hk)
 ·rcases hb with hb|hb|⟨j,hj,hb⟩|hb|hb|hb
  ·exact .inl (.inl hb)
  ·exact .inl (.inr (.inl hb))
  ·rw[List.length_set]at hj
   by_cases e:j=k
   ·subst e;rw[Zh hxk]at hb
    rcases hw b hb with h1|h1
    ·exact .inl (.inr (.inr (.inl ⟨j,hj,h1⟩)))
    ·exact .inr h1
   ·rw[Zm e]at hb;exact .inl (.inr (.inr (.inl ⟨j,hj,hb⟩)))
  ·exact .inl (.inr (.inr (.inr (.inl hb))))
  ·exact .inl (.inr (.inr (.inr (.inr (.inl hb)))))
  ·exact .inl (.inr (.inr (.inr (.inr (.inr hb)))))
 ·exact hkeep b hb (fun e=>hO (.inr (.inl e))) (fun e=>hO (.inr (.inr (.inl ⟨k,hxk,e⟩))))
theorem FX.set3{lo:Nat}{W V W1:World}{p bb bb2:Nat}{gv:Value}{xs xs2:List Value}{ev fv uv ev2 fv2 uv2:Value}{s s2:PP}(h:FlowS lo W p bb gv xs ev fv uv s)(hb:Below W.1.size W V)(h2:FX lo p gv (FO p bb xs ev fv uv) V W1 bb2 xs2 ev2 fv2 uv2 s2){q:Nat}(h1:W.1.size≤q)(hq:q<V.1.size)(u0 u1 u2:Value) :
  FX lo p gv (FO p bb xs ev fv uv) W (((W1.setCell ⟨q,0,none⟩ u0).setCell ⟨q,1,none⟩ u1).setCell ⟨q,2,none⟩ u2) bb2 xs2 ev2 fv2 uv2 s2:=by
 have hn:¬FO p bb2 xs2 ev2 fv2 uv2 q:=fun e=>by
  rcases h2.old q e with h3|h3
  ·exact h.far h1 h3
  ·omega
 have hlo:lo≤q:=Nat.le_trans h.lo_le h1;have hz:=hb.size;have h3:=FX.start h hb h2;refine⟨((h3.flow.setFar (a:=⟨q,0,none⟩) hn u0).setFar (a:=⟨q,1,none⟩) hn u1).setFar (a:=⟨q,2,none⟩) hn u2,h3.old,((h3.low.setCell (p:=⟨q,0,none⟩) hlo _).setCell (p:=⟨q,1,none⟩) hlo _).setCell (p:=⟨q,2,none⟩) hlo _,fun b h4 h5=>?_⟩;have hbq:b≠q:=by omega
 rw[Below.heap_setCell _ _ _ _ hbq,Below.heap_setCell _ _ _ _ hbq,Below.heap_setCell _ _ _ _ hbq];exact h3.kept b h4 h5
theorem Cg(lo:Nat)(W:World)(p bb:Nat)(gv:Value)(xs:List Value)(ev fv uv:Value)(s:PP)(k:Nat)(t1 t2 t3:Int)(r:List (Int×Int×Int))(h:FlowS lo W p bb gv xs ev fv uv s)(hk:k<s.bx.length)(hr:el s.bx k=(t1,t2,t3)::r)(ht:Zs s.bx≤100000) :
  Calls prog 214 #[.pointer (some ⟨p,0,none⟩),.int .i64 (k:Int)] W fun e W'=>e=.returned (.agg #[.int .i64 t1,.int .i64 t2,.int .i64 t3])∧FStepS lo p gv (FO p bb xs ev fv uv) W W' { s with bx:=s.bx.set k r }:=by
 have hp:=h.box.size;have hbb:=h.hnd.size;have hxk:k<xs.length:=by rw[h.hnd.len];exact hk
 have hTe:=Kl hk;obtain⟨ho,hc,hsl,hcn,hFr⟩:=h.hnd.slice hk;rw[hr]at hsl hFr hTe;obtain⟨g,rfl,hg1,hg2,hg3,hgo⟩:=hFr.at (by simp);have hIn:=hFr.in;have hcap:r.length+1≤hc:=by have:=hFr.cap;simpa using this
 simp only[List.length_cons]at hsl hTe;have hb0:=Qf W (.cells #[.int .i64 0,.int .i64 0,.int .i64 0] 163) (.cells #[.int .i64 t1,.int .i64 t2,.int .i64 t3] 163);have F0:=h.later hb0;have T0:=(Bx.new (w:=W) [.int .i64 0,.int .i64 0,.int .i64 0] 163 rfl).alloc (.cells #[.int .i64 t1,.int .i64 t2,.int .i64 t3] 163);have T1:=Bx.new (w:=W.alloc (.cells #[.int .i64 0,.int .i64 0,.int .i64 0] 163)) [.int .i64 t1,.int .i64 t2,.int .i64 t3] 163 rfl;obtain⟨V,hV⟩:=nmd ((W.alloc (.cells #[.int .i64 0,.int .i64 0,.int .i64 0] 163)).alloc (.cells #[.int .i64 t1,.int .i64 t2,.int .i64 t3] 163));have hsz1:(W.alloc (.cells #[.int .i64 0,.int .i64 0,.int .i64 0] 163)).heap.size=W.1.size+1:=by simp
 rw[←hV]at hb0 F0 T0 T1;rw[hsz1]at T1;have hI0:=hIn.later hb0;have HV:=Zd hV;have c4:=F0.box.c 4 rfl;have ck:=(F0.head hk).1;rw[hsl]at ck;have hki:(k:Int)<(s.bx.length:Int):=by omega
 have hVs:V.1.size=W.1.size+2:=by rw[hV];simp
 have HVs:=Zd hVs;have HF0:=Zd F0;have HB0:=Zd hb0;have HT0:=Zd T0;have HT1:=Zd T1;have hle1:(1:Int)≤(r.length:Int)+1:=by omega
 have hI1:kTk.In V.1.size V (if hc=1 then some ⟨g,0,none⟩else some ⟨g,3,none⟩) r:=by
  by_cases h0:r.length=0
  ·exact .inl (List.length_eq_zero_iff.1 h0)
  ·rw[if_neg (by omega)];obtain⟨b,off,e,hb,hcs⟩:=Ub hI0 (k:=0) (by simp)
   simp at e
   obtain⟨rfl,rfl⟩:=e;refine .inr ⟨g,3,rfl,hb,fun j hj i hi=>?_⟩;have hcj:=hcs (j+1) (by simp;omega);have ej:el ((t1,t2,t3)::r) (j+1)=el r j:=by simp[el]
   rw[ej]at hcj;have hi':i<3:=hi;have e0:0+(j+1)*3=3+j*3:=by omega
   rw[e0]at hcj
   rcases(show i=0∨i=1∨i=2 from by omega)with rfl|rfl|rfl
   ·exact hcj.1
   ·exact hcj.2.1
   ·exact hcj.2.2
 have c4w:=h.box.c 4 rfl;have ckw:=(h.head hk).1;rw[hsl]at ckw;obtain⟨b0,off0,e0,hbl,hcs⟩:=Ub hIn (k:=0) (by simp)
 simp at e0
 obtain⟨rfl,rfl⟩:=e0;have d0:W.cell? ⟨g,0,none⟩=some (.int .i64 t1):=(hcs 0 (by simp)).1;have d1:W.cell? ⟨g,1,none⟩=some (.int .i64 t2):=(hcs 0 (by simp)).2.1;have d2:W.cell? ⟨g,2,none⟩=some (.int .i64 t3):=(hcs 0 (by simp)).2.2;have hr1:(0:Int)<((r.length+1:Nat):Int):=by omega
 have HI1:=Zd hI1;have HCK:=Zd (And.intro c4 ck);have HSL:=Zd hsl;clear hV hb0 F0 T0 T1 hI1 hI0 hIn hFr hgo hcs hsz1 c4 ck hVs hsl;go_enter func214,ntmps214;go_wp2;rw[←HV.o];clear c4w ckw d0 d1 d2;refine Qq (zl:=[18]) (S:=fun Y=>Y.cell? ⟨p,4,none⟩=some (.slice (some ⟨bb,0,none⟩) s.bx.length s.bx.length)∧Y.cell? ⟨bb,k,none⟩=some (.slice (some ⟨g,0,none⟩) (r.length+1) hc)) (by kernel_rfl) HCK.o (fun hH=>?_);refine Zq 0 hH ?_;refine Zq 1 hH ?_;refine Zq 2 hH ?_;refine Zq 3 hH ?_;refine Zq 4 hH ?_;refine Zq 5 hH ?_;refine Zq 7 hH ?_;refine Zq 8 hH ?_;refine Zq 9 hH ?_;refine Zq 10 hH ?_;refine Zq 11 hH ?_;refine Zq 12 hH ?_;refine Zq 13 hH ?_;refine Zq 14 hH ?_;refine Zq 15 hH ?_;refine Walks.on 6 fun K hK=>?_
 go_simp;obtain⟨U,hU⟩:=nmd ((V.alloc (.cells #[] 163)).drew);rw[←hU];have hbU:Below V.1.size V U:=by rw[hU];exact(Zk V _).drew
 have hOU:kTk.Own (bb+1) U (.slice (some ⟨V.1.size,0,none⟩) 0 0) []:=by rw[hU];exact(Kind.Own.new kTk (bb+1) V (by have:=HVs.o;omega)).below (Below.refl _ _).drew
 have CU:U.cell? ⟨p,4,none⟩=some (.slice (some ⟨bb,0,none⟩) s.bx.length s.bx.length)∧U.cell? ⟨bb,k,none⟩=some (.slice (some ⟨g,0,none⟩) (r.length+1) hc):=by
  have hz:=HVs.o;exact⟨(hbU.cell (p:=⟨p,4,none⟩) (by dsimp only;omega)).trans HCK.o.1,(hbU.cell (p:=⟨bb,k,none⟩) (by dsimp only;omega)).trans HCK.o.2⟩
 have hIU:=HI1.o.later hbU;refine hK.out _ _ (fun _=>CU) (fun _=>?_);clear hK K hU;refine Walks.on 16 fun K hK=>?_
 refine Je Mt U (by rfl) (.tmp 22) (.tmp 31) (by rfl) (bb+1) (.slice (some ⟨V.1.size,0,none⟩) 0 0) [] (by rfl) hOU (by have:=hbU.size;have:=HVs.o;omega) (if hc=1 then some ⟨g,0,none⟩else some ⟨g,3,none⟩) r r.length (hc-1) (by first|rfl|kernel_rfl|(go_simp;done)|(go_simp;rfl)) rfl (by split <;> simp) _ hIU (by simp;omega) ?_;intro v' w2 hO2 hB2 hG2 hw2;rw[List.nil_append]at hO2;obtain⟨vo,vc,hv',_,_⟩:=hO2.fresh;have hb2:Below V.1.size V w2:=by
  have hz:=hbU.size;refine⟨hG2.os.trans hbU.os,hG2.tape.trans hbU.tape,hG2.output.trans hbU.output,Nat.le_trans hz hG2.size,fun b hb=>(hG2.block b (by omega) (fun e=>?_)).trans (hbU.block b hb)⟩
  simp[Value.ownBlock]at e
  omega
 have C2:w2.cell? ⟨p,4,none⟩=some (.slice (some ⟨bb,0,none⟩) s.bx.length s.bx.length)∧w2.cell? ⟨bb,k,none⟩=some (.slice (some ⟨g,0,none⟩) (r.length+1) hc):=by
  have hz:=HVs.o;exact⟨(hb2.cell (p:=⟨p,4,none⟩) (by dsimp only;omega)).trans HCK.o.1,(hb2.cell (p:=⟨bb,k,none⟩) (by dsimp only;omega)).trans HCK.o.2⟩
 have F2:=HF0.o.later hb2;have cB:=C2.2;have fB:=(F2.head hk).2;have hw3:∀b,v'.ownBlock=some b→V.1.size≤b:=fun b hb=>by
  rcases hw2 b hb with h1|h1
  ·simp[Value.ownBlock]at h1;omega
  ·have:=hbU.size;omega
 have HFX:=Zd (FX.set3 h HB0.o (HF0.o.putRow hk (L:=r) hO2 (hb2.mono (by have:=HF0.o.lo_le;exact this)) ⟨hb2.os,hb2.tape,hb2.output,hb2.size,fun b h1 _=>hb2.block b h1⟩ (fun b hb=>.inr (hw3 b hb))) (q:=W.1.size) (Nat.le_refl _) (by have:=HVs.o;omega) (.int .i64 t1) (.int .i64 t2) (.int .i64 t3));have HT2:=Zd (HT0.o.later hb2);have HT3:=Zd (HT1.o.later hb2);refine hK.out _ _ (fun _=>C2) (fun _=>?_);clear hK K;refine Zq 17 C2 ?_;refine Walks.on 18 fun K hK=>?_
 rw[hv']at HFX;rw[hv'];go_simp;refine hK.out _ _ (fun h=>absurd h (by decide)) (fun _=>?_);refine Walks.done (by kernel_rfl) ?_ _;clear hK K;have hqb:bb≠W.1.size∧bb≠W.1.size+1:=by omega
 have x0:=(HT3.o.other (a:=⟨bb,k,none⟩) hqb.2 (.slice vo r.length vc)).c 0 rfl;have x1:=(HT3.o.other (a:=⟨bb,k,none⟩) hqb.2 (.slice vo r.length vc)).c 1 rfl;have x2:=(HT3.o.other (a:=⟨bb,k,none⟩) hqb.2 (.slice vo r.length vc)).c 2 rfl;have y0:=(HT2.o.other (a:=⟨bb,k,none⟩) hqb.1 (.slice vo r.length vc)).c 0 rfl;have y1:=(HT2.o.other (a:=⟨bb,k,none⟩) hqb.1 (.slice vo r.length vc)).c 1 rfl;have y2:=(HT2.o.other (a:=⟨bb,k,none⟩) hqb.1 (.slice vo r.length vc)).c 2 rfl;have z0:=(HT2.o.other (a:=⟨bb,k,none⟩) hqb.1 (.slice vo r.length vc)).f 0 rfl;have z1:=(HT2.o.other (a:=⟨bb,k,none⟩) hqb.1 (.slice vo r.length vc)).f 1 rfl;have z2:=(HT2.o.other (a:=⟨bb,k,none⟩) hqb.1 (.slice vo r.length vc)).f 2 rfl;obtain⟨w3,h3⟩:=nmd (w2.setCell ⟨bb,k,none⟩ (.slice vo r.length vc));rw[←h3]at x0 x1 x2 y0 y1 y2 z0 z1 z2 HFX ⊢;clear h3 cB fB C2 hO2 hB2 hG2 hw2 hb2 F2 HT2 HT3;go_wp2
 all_goals exact bodyPost_ret (v:=.agg #[.int .i64 t1,.int .i64 t2,.int .i64 t3]) (by simp[results,results214,go_sem,y0,y1,y2]) rfl ⟨rfl,HFX.o.step⟩
end Go.Proofs.YtdacedbfnlkghaaGreatDoor