/- A node added by a line: the specification. What a script of the specification does with a command: moves and what is told, in one. A line of the specification's script. A line of the specification's script, whatever it has come to; a script run. The graph of a script's text: the program. No conditions but those written. -/
import Derived.Test.YtdacedbfnlkghaaGreatDoorUTpj
namespace Go.Proofs.YtdacedbfnlkghaaGreatDoor
set_option maxHeartbeats 16000000
set_option maxRecDepth 100000
open Go.RowKit Go.Proofs.Tryz
def AnsAq(q:Nat)(W:World)(_o:Option Addr)(us:List LNode)(line:ByteArray)(e:Ending)(W':World):Prop:=e=.returned (.string (if(Kf line).2=true∧us.length≠10 then okT else noT))∧(∃o' c' us' hi',QA q W' o' c' us' hi'∧us'.map Zz=(if(Kf line).2=true∧us.length≠10 then us.map Zz++[pnode (Kf line).1]else us.map Zz)∧Below q W W')
theorem lineS_add(q:Nat)(W:World)(o:Option Addr)(c:Nat)(us:List LNode)(hi:Nat)(line:ByteArray)(ws:List ByteArray)(hws:ws=Zw line 32)(h:QA q W o c us hi)(hs:line.size≤3000)(hw0:el ws 0=Xw) :
  Calls prog 86 #[.pointer (some ⟨q,0,none⟩),.string line] W (AnsAq q W o us line):=by
 have HP:Zi (Calls prog 85 #[.string line,.int .u8 32] W (AnsS W ws)):=by rw[Zi,hws];exact Xz line 32 W (by omega)
 have HSh:Zi (Ns ws):=by rw[Zi,hws];exact Qc 32 (by omega)
 have hL:ws.length≤line.size+1:=by rw[hws];exact Qr line 32
 have hpos:0<ws.length:=by rw[hws];exact Jd line 32
 have H:=Zd h;have HQ:=Zd (Nat.le_of_lt h.box.size);clear hws h;go_enter func86,ntmps86;go_wp2_with fail;refine HP.o.mono ?_;rintro e w0 ⟨⟨go,qc,rfl,hno,hF⟩,hb0⟩;obtain⟨g,rfl,hg1,hg2,hg3,_⟩:=hF.at hpos;have hcap:=hF.cap;have hI:=Zd hF.in;have d0:=Jf hI.o 0 hpos;have HH:=Zd (H.o.later hb0);have HB0:=Zd (hb0.mono HQ.o);have HQS:Zi (q<W.1.size):=H.o.box.size;obtain⟨x,hx⟩:=nmd (el ws 0);rw[←hx]at d0;have hgz:g<w0.1.size:=by omega
 have hpi:(0:Int)<(ws.length:Int):=by omega
 have HHB:=Zd hb0.size;clear hF hno hb0 hg2 hg3 HP H;have b2:=HH.o.box.c 2 rfl;have b2z:=HH.o.box.size;have hn0:x=Xw:=by rw[hx];exact hw0
 have f0:(x.toList==[110,111,100,101])=true:=by rw[hn0,show Xw.toList=[110,111,100,101]from by rw[Xw,Lib.toList_data]];rfl
 clear hx hw0 hn0;have HRN:=Zd (Lr line w0 (by omega));have HF:=Zd (readR_fit (s:=line) hs);clear hs;obtain⟨⟨⟨nm,kd,sa,sb,cp,nx⟩,y⟩,hR⟩:∃R,Kf line=R:=⟨_,rfl⟩;rw[hR]at HRN HF;dsimp only at HF;have HR:=Zd hR;clear hR;go_wp2_with fail;refine HRN.o.mono ?_;clear d0 b2 b2z f0 hgz hg1;rintro e w1 ⟨⟨nxo,nxc,rfl,hno,hF⟩,hb1⟩;dsimp only at hF;dsimp only;obtain⟨V,hV⟩:=nmd (w1.alloc (.cells #[.string nm,.int .i64 kd,.int .i64 sa,.int .i64 sb,.int .i64 cp,.slice nxo nx.length nxc] 27));have hbV:Below w1.1.size w1 V:=by rw[hV];exact Zk _ _
 have XN:Bx V w1.1.size [.string nm,.int .i64 kd,.int .i64 sa,.int .i64 sb,.int .i64 cp,.slice nxo nx.length nxc]:=by rw[hV];exact Bx.new [.string nm,.int .i64 kd,.int .i64 sa,.int .i64 sb,.int .i64 cp,.slice nxo nx.length nxc] _ rfl
 have hVs:w1.1.size<V.1.size:=XN.size;have hBV:=hb1.trans (hbV.mono hb1.size);have PV:=Zd (HH.o.later hBV);have FX:=Zd (hF.later hbV);have HV:=Zd hV;have HBV:=Zd hBV;have hW1:w0.1.size≤w1.1.size:=hb1.size;have q0:=PV.o.box.c 0 rfl;have qz:=PV.o.box.size;have hul:us.length≤10:=PV.o.fit.1;clear hV hbV hb1 hF hno HRN
 go_upto_region 4 with fail
 rw[←HV.o];clear HV
 cases y with
 |false =>
  go_wp2;refine bodyPost_ret (v:=.string ⟨#[110,111]⟩) (by simp[results,results86,go_sem]) rfl ?_;exact⟨by rw[if_neg (fun hh=>by rw[HR.o]at hh;cases hh.1)];rfl,o,c,us,hi,PV.o,by rw[if_neg (fun hh=>by rw[HR.o]at hh;cases hh.1)],HB0.o.trans (HBV.o.mono (Nat.le_of_lt HH.o.box.size))⟩
 |true =>
  by_cases h10:us.length=10
  ·have hd:((us.length:Int)==10)=true:=by rw[h10];rfl
   have H10:=Zd h10;clear h10;go_wp2;refine bodyPost_ret (v:=.string ⟨#[110,111]⟩) (by simp[results,results86,go_sem]) rfl ?_;exact⟨by rw[if_neg (fun hh=>hh.2 H10.o)];rfl,o,c,us,hi,PV.o,by rw[if_neg (fun hh=>hh.2 H10.o)],HB0.o.trans (HBV.o.mono (Nat.le_of_lt HH.o.box.size))⟩
  ·have hd:((us.length:Int)==10)=false:=by simp;omega
   have H10:=Zd h10;clear h10
   go_upto_region 6 with fail
   have C0:Zi (V.cell? ⟨q,0,none⟩=some (.slice o us.length c)∧V.cell? ⟨w1.1.size,0,none⟩=some (.string nm)∧V.cell? ⟨w1.1.size,1,none⟩=some (.int .i64 kd)∧V.cell? ⟨w1.1.size,2,none⟩=some (.int .i64 sa)∧V.cell? ⟨w1.1.size,3,none⟩=some (.int .i64 sb)∧V.cell? ⟨w1.1.size,4,none⟩=some (.int .i64 cp)∧V.cell? ⟨w1.1.size,5,none⟩=some (.slice nxo nx.length nxc)):=⟨q0,XN.c 0 rfl,XN.c 1 rfl,XN.c 2 rfl,XN.c 3 rfl,XN.c 4 rfl,XN.c 5 rfl⟩;clear XN;refine Qq (zl:=[10]) (S:=fun Y=>Y.cell? ⟨q,0,none⟩=some (.slice o us.length c)∧Y.cell? ⟨w1.1.size,0,none⟩=some (.string nm)∧Y.cell? ⟨w1.1.size,1,none⟩=some (.int .i64 kd)∧Y.cell? ⟨w1.1.size,2,none⟩=some (.int .i64 sa)∧Y.cell? ⟨w1.1.size,3,none⟩=some (.int .i64 sb)∧Y.cell? ⟨w1.1.size,4,none⟩=some (.int .i64 cp)∧Y.cell? ⟨w1.1.size,5,none⟩=some (.slice nxo nx.length nxc)) (by kernel_rfl) C0.o (fun hH=>?_);refine Zq 0 hH ?_;refine Zq 1 hH ?_;refine Zq 2 hH ?_;refine Zq 3 hH ?_;refine Zq 4 hH ?_;refine Zq 5 hH ?_;refine Walks.on 6 fun K hK=>?_
   go_simp;obtain⟨U,hU⟩:=nmd ((V.alloc (.cells #[.string nm,.int .i64 kd,.int .i64 sa,.int .i64 sb,.int .i64 cp,.slice nxo nx.length nxc] 27)).drew);rw[←hU];have hbU:Below V.1.size V U:=by rw[hU];exact(Zk V _).drew
   have hN:Pf.In U.1.size U (some ⟨V.1.size,0,none⟩) [((nm,kd,sa,sb,cp,(nxo,nxc,nx)):LNode)]:=by
    have hx:Bx U V.1.size [.string nm,.int .i64 kd,.int .i64 sa,.int .i64 sb,.int .i64 cp,.slice nxo nx.length nxc]:=by rw[hU];exact(Bx.new (w:=V) [.string nm,.int .i64 kd,.int .i64 sa,.int .i64 sb,.int .i64 cp,.slice nxo nx.length nxc] 27 rfl).drew
    exact hNode_one hx.size hx
   have PU:=Zd (PV.o.later hbU);have FU:=Zd (FX.o.later hbU);have C1:=C0.o;have hqV:q<V.1.size:=qz;have CU:U.cell? ⟨q,0,none⟩=some (.slice o us.length c):=(hbU.cell (p:=⟨q,0,none⟩) hqV).trans C1.1;have hBU:=HBV.o.trans (hbU.mono HBV.o.size);have hsU:V.1.size≤U.1.size:=hbU.size;refine hK.out _ _ (fun _=>⟨CU,(hbU.cell (p:=⟨w1.1.size,0,none⟩) hVs).trans C1.2.1,(hbU.cell (p:=⟨w1.1.size,1,none⟩) hVs).trans C1.2.2.1,(hbU.cell (p:=⟨w1.1.size,2,none⟩) hVs).trans C1.2.2.2.1,(hbU.cell (p:=⟨w1.1.size,3,none⟩) hVs).trans C1.2.2.2.2.1,(hbU.cell (p:=⟨w1.1.size,4,none⟩) hVs).trans C1.2.2.2.2.2.1,(hbU.cell (p:=⟨w1.1.size,5,none⟩) hVs).trans C1.2.2.2.2.2.2⟩) (fun hU0=>?_);clear hK K hU C1 hU0;have hhi0:=PU.o.hi0;have hhi1:hi≤w0.1.size:=HH.o.hi1;refine Walks.on 7 fun K hK=>?_
   refine Je hNode_ok U (by rfl) (.tmp 48) (.tmp 50) (by rfl) (q+1) (.slice o us.length c) us (by rfl) (by exact PU.o.gr.2.1) (by omega) (some ⟨V.1.size,0,none⟩) [((nm,kd,sa,sb,cp,(nxo,nxc,nx)):LNode)] 1 1 (by rfl) rfl (by simp) _ hN (by simp;omega) ?_;intro v' w2 hO2 hB2 hG2 hw2;obtain⟨tq,tc,rfl,hGR⟩:=gr_app PU.o.gr (FU.o.wide (show hi≤w0.1.size by omega) (by omega)) (by omega) (by omega) hO2 hG2;obtain⟨zs,hzs⟩:=nmd (us++[((nm,kd,sa,sb,cp,(nxo,nxc,nx)):LNode)]);rw[←hzs]at hGR hw2 ⊢;have hob:∀b,(Value.slice o us.length c).ownBlock=some b→q+1≤b∧b<hi:=fun b hb=>rw_block PU.o.gr.2 hb
   have hkp:∀b,b<U.1.size→(b=q∨w0.1.size≤b)→w2.heap[b]? = U.heap[b]? := fun b hb hc=>hG2.block b hb fun e=>by have:=hob b e.symm;omega
   have hqU:q<U.1.size:=by omega
   have hnU:w1.1.size<U.1.size:=by omega
   have X2:Bx w2 q [.slice o us.length c,.pointer none,.bool false,.int .i64 0,.int .i64 0]:=PU.o.box.keep hG2.size (hkp q hqU (.inl rfl));have c2:=X2.c 0 rfl;have f2:=X2.f 0 rfl;have z2:=X2.size;have HX2:=Zd X2;have HS2:Zi (w2.cell? ⟨q,0,none⟩=some (.slice o us.length c)∧w2.cell? ⟨w1.1.size,0,none⟩=some (.string nm)∧w2.cell? ⟨w1.1.size,1,none⟩=some (.int .i64 kd)∧w2.cell? ⟨w1.1.size,2,none⟩=some (.int .i64 sa)∧w2.cell? ⟨w1.1.size,3,none⟩=some (.int .i64 sb)∧w2.cell? ⟨w1.1.size,4,none⟩=some (.int .i64 cp)∧w2.cell? ⟨w1.1.size,5,none⟩=some (.slice nxo nx.length nxc)):=by
    have hk1:=hkp w1.1.size hnU (.inr hW1);have C1:=C0.o;exact⟨c2,(World.cell?_of_block (a:=⟨w1.1.size,0,none⟩) hk1).trans ((hbU.cell (p:=⟨w1.1.size,0,none⟩) hVs).trans C1.2.1),(World.cell?_of_block (a:=⟨w1.1.size,1,none⟩) hk1).trans ((hbU.cell (p:=⟨w1.1.size,1,none⟩) hVs).trans C1.2.2.1),(World.cell?_of_block (a:=⟨w1.1.size,2,none⟩) hk1).trans ((hbU.cell (p:=⟨w1.1.size,2,none⟩) hVs).trans C1.2.2.2.1),(World.cell?_of_block (a:=⟨w1.1.size,3,none⟩) hk1).trans ((hbU.cell (p:=⟨w1.1.size,3,none⟩) hVs).trans C1.2.2.2.2.1),(World.cell?_of_block (a:=⟨w1.1.size,4,none⟩) hk1).trans ((hbU.cell (p:=⟨w1.1.size,4,none⟩) hVs).trans C1.2.2.2.2.2.1),(World.cell?_of_block (a:=⟨w1.1.size,5,none⟩) hk1).trans ((hbU.cell (p:=⟨w1.1.size,5,none⟩) hVs).trans C1.2.2.2.2.2.2)⟩
   have HFIN:Zi (AnsAq q W o us line (.returned (.string okT)) (w2.setCell ⟨q,0,none⟩ (.slice tq zs.length tc))):=by
    have hc:(Kf line).2=true∧us.length≠10:=⟨by rw[HR.o],H10.o⟩;have hfn:=HF.o rfl;have hul2:=H10.o;refine⟨by rw[if_pos hc],tq,tc,zs,w2.1.size,⟨X2.set 0 _,hGR.setOff (.inl (by dsimp only;omega)) _,⟨by rw[hzs];simp;omega,fun a ha=>?_⟩,by simp[World.setCell],by omega⟩,?_,?_⟩
    ·rw[hzs]at ha
     rcases List.mem_append.1 ha with ha|ha
     ·exact PV.o.fit.2 a ha
     ·rw[List.mem_singleton.1 ha];exact hfn
    ·rw[if_pos hc,hzs,List.map_append,HR.o];rfl
    ·exact HB0.o.trans (((hBU.mono (Nat.le_of_lt HH.o.box.size)).trans (hB2.mono (by omega)))|> bbs)
   clear hzs;refine hK.out _ _ (fun _=>HS2.o) (fun _=>?_);clear hK K hO2 hB2 hG2 hw2 hGR hob hkp X2 C0;refine Walks.on 8 fun K hK=>?_
   go_simp;refine hK.out _ _ (fun _=>HS2.o) (fun _=>?_);clear hK K;refine Walks.on 9 fun K hK=>?_
   go_simp;refine hK.out _ _ (fun _=>HS2.o) (fun _=>?_);clear hK K;refine Walks.on 10 fun K hK=>?_
   go_simp;refine hK.out _ _ (fun h=>absurd h (by decide)) (fun _=>?_);clear hK K;refine Walks.done (by kernel_rfl) ?_ _;go_wp2;refine bodyPost_ret (v:=.string ⟨#[111,107]⟩) (by simp[results,results86,go_sem]) rfl ?_;exact HFIN.o
theorem num2_of{q:Nat}{W:World}{go:Option Addr}{x y:Int}(hz:kI.In W.1.size W go ([x,y]:List Int))(hgq:∀a,go=some a→q<a.block):Num2 q W go x y:=by
 obtain⟨nb,noff,rfl,hnb,hnc⟩:=Zo hz (k:=0) (by simp);exact⟨nb,noff,rfl,hnb,hgq _ rfl,hnc 0 (by simp),hnc 1 (by simp)⟩
theorem num1_of{q:Nat}{W:World}{go:Option Addr}{x:Int}(hz:kI.In W.1.size W go ([x]:List Int))(hgq:∀a,go=some a→q<a.block):Num1 q W go x:=by
 obtain⟨nb,noff,rfl,hnb,hnc⟩:=Zo hz (k:=0) (by simp);exact⟨nb,noff,rfl,hnb,hgq _ rfl,hnc 0 (by simp)⟩
theorem moveS_all(q:Nat)(W:World)(o:Option Addr)(c:Nat)(us:List LNode)(hi lo p bb:Nat)(xs:List Value)(ev fv uv:Value)(st:SS)(h:QR q W o c us hi lo p bb xs ev fv uv st.s st.n)(hg:us.map Zz=st.gs)(k:Nat)(hk:k<6)(go:Option Addr)(gc:Nat)(l:List Int)(hl:l.length=Uh k)(hz:kI.In W.1.size W go l)(hgq:∀a,go=some a→q<a.block) :
  Calls prog 111 #[.pointer (some ⟨q,0,none⟩),.int .i64 ((k:Int)+1),.slice go l.length gc] W (Da q W o c us hi lo p (Jl st ((k:Int)+1) l).2 (Jl st ((k:Int)+1) l).1.s (Jl st ((k:Int)+1) l).1.n):=by
 rw[Fh st hk,Ti];dsimp only
 by_cases h3:st.n=300
 ·have hm:Yy st.gs st.s st.n (mvR ((k:Int)+1) l)=(Nb,st.s,st.n):=by unfold Yy;rw[if_pos h3]
  rw[hm];have hbx:=h.box;rw[h3]at hbx;refine(moveS_full q W _ _ _ _ ((k:Int)+1) go l.length gc hbx).mono ?_;rintro e W' ⟨rfl,rfl⟩;exact⟨rfl,bb,xs,ev,fv,uv,h,Below.refl _ _⟩
 ·have hm:∀m,Yy st.gs st.s st.n m=(movT (doR (us.map Zz) (Ke (us.map Zz) us.length) st.s m.1 m.2.1 m.2.2).1,(doR (us.map Zz) (Ke (us.map Zz) us.length) st.s m.1 m.2.1 m.2.2).2,st.n+1):=fun m=>by
   unfold Yy
   rw[if_neg h3,←hg,Zb]
  rw[hm]
  rcases(show k=0∨k=1∨k=2∨k=3∨k=4∨k=5 from by omega)with rfl|rfl|rfl|rfl|rfl|rfl
  ·match l,hl with
   | [x,y],_=>exact Yw q W o c us hi lo p bb xs ev fv uv st.s st.n h go 2 gc 1 x y (by omega) h3 (.inl ⟨rfl,rfl,num2_of hz hgq⟩)
  ·match l,hl with
   | [x],_=>exact Yw q W o c us hi lo p bb xs ev fv uv st.s st.n h go 1 gc 2 x 0 (by omega) h3 (.inr (.inl ⟨rfl,rfl,rfl,rfl,num1_of hz hgq⟩))
  ·match l,hl with
   | [x],_=>exact Yw q W o c us hi lo p bb xs ev fv uv st.s st.n h go 1 gc 3 x 0 (by omega) h3 (.inr (.inr (.inl ⟨rfl,rfl,rfl,rfl,rfl,num1_of hz hgq⟩)))
  ·match l,hl with
   | [x],_=>exact Yw q W o c us hi lo p bb xs ev fv uv st.s st.n h go 1 gc 4 0 x (by omega) h3 (.inr (.inr (.inr (.inl ⟨rfl,rfl,rfl,rfl,rfl,rfl,num1_of hz hgq⟩))))
  ·match l,hl with
   | [],_=>exact Yw q W o c us hi lo p bb xs ev fv uv st.s st.n h go 0 gc 5 0 0 (by omega) h3 (.inr (.inr (.inr (.inr ⟨rfl,rfl,rfl,rfl,rfl,rfl⟩))))
  ·match l,hl with
   | [],_=>exact Yw q W o c us hi lo p bb xs ev fv uv st.s st.n h go 0 gc 6 0 0 (by omega) h3 (.inr (.inr (.inr (.inr ⟨rfl,rfl,rfl,rfl,rfl,rfl⟩))))
theorem tells_all(q:Nat)(W:World)(o:Option Addr)(c:Nat)(us:List LNode)(hi lo p bb:Nat)(xs:List Value)(ev fv uv:Value)(st:SS)(h:QR q W o c us hi lo p bb xs ev fv uv st.s st.n)(hg:us.map Zz=st.gs)(hR:RgI st.s)(k:Nat)(hk:k<11)(hk6:¬k<6)(go:Option Addr)(gc:Nat)(l:List Int)(hl:l.length=Uh k)(hz:kI.In W.1.size W go l) :
  Calls prog 112 #[.pointer (some ⟨q,0,none⟩),.string (Vj k),.slice go l.length gc] W (Da q W o c us hi lo p (Jl st ((k:Int)+1) l).2 (Jl st ((k:Int)+1) l).1.s (Jl st ((k:Int)+1) l).1.n):=by
 rcases(show k=6∨k=7∨k=8∨k=9∨k=10 from by omega)with rfl|rfl|rfl|rfl|rfl
 ·have h1:=tells_run q W o c us hi lo p bb xs ev fv uv st.s st.n h go l.length gc;rw[hg]at h1;exact h1
 ·exact tells_rep q W o c us hi lo p bb xs ev fv uv st.s st.n h go l.length gc
 ·exact tells_out q W o c us hi lo p bb xs ev fv uv st.s st.n h go l.length gc hR
 ·exact tells_lost q W o c us hi lo p bb xs ev fv uv st.s st.n h go l.length gc hR
 ·match l,hl with
  | [x,y],_ =>
   have h1:=tells_mean q W o c us hi lo p bb xs ev fv uv st.s st.n h go gc x y hz;rw[hg]at h1;exact h1
theorem ScQ.of(q:Nat)(W W':World)(o:Option Addr)(c:Nat)(us:List LNode)(hi lo p:Nat)(st:SS)(hb:st.bg=true)(h0:st.bad=0)(hg:us.map Zz=st.gs)(hI:SSI st)(k:Int)(l:List Int){e:Ending}(h:Da q W o c us hi lo p (Jl st k l).2 (Jl st k l).1.s (Jl st k l).1.n e W') :
  e=.returned (.string (Jl st k l).2)∧ScQ q W' (Jl st k l).1∧Below q W W':=by
 obtain⟨he,bb,xs,ev,fv,uv,hQ,hl⟩:=h;obtain⟨r1,r2,r3⟩:=Tc st k l;exact⟨he,.inr (.inr ⟨r2.trans hb,r3.trans h0,o,c,us,hi,lo,p,bb,xs,ev,fv,uv,hQ,by rw[r1];exact hg,((hI.obey hb h0 k l).run (r2.trans hb) (r3.trans h0)).2.2.2⟩),hl⟩
noncomputable def Wi(st:SS)(ws:List ByteArray):SS×ByteArray:=if st.bad≠0 then(st,refT st.bad)else runA st ws
def AnsRest(q:Nat)(W:World)(R:SS×ByteArray)(e:Ending)(W':World):Prop:=e=.returned (.string R.2)∧ScQ q W' R.1∧Below q W W'
theorem runA_no{st:SS}{ws:List ByteArray}(h:Df ws=(0,[],false)):runA st ws=(st,Nb):=by unfold runA;rw[h]
theorem node_no:∀j:Nat,j<11→Xw≠Vj j:=by
 intro j hj e;have h:∀j:Fin 11,Xw.data.toList≠(Vj j).data.toList:=by decide
 exact h ⟨j,hj⟩ (by rw[e])
theorem lineS_node(q:Nat)(W:World)(st:SS)(line:ByteArray)(ws:List ByteArray)(hws:ws=Zw line 32)(hq:q<W.1.size)(HBG:Zi (∀w0,Below W.1.size W w0→Calls prog 108 #[.pointer (some ⟨q,0,none⟩)] w0 fun e W'=>(∃v,e=.returned v)∧SStep q (OB q) (OB q) w0 W'∧ScQ q W' st))(hbg:st.bg=true)(hI0:SSI st)(hs:line.size≤3000)(hn0:el ws 0=Xw)(hb2:Zi (∀w0,Below W.1.size W w0→w0.cell? ⟨q,2,none⟩=some (.bool true))) :
  Calls prog 86 #[.pointer (some ⟨q,0,none⟩),.string line] W (AnsRest q W (Wi st ws)):=by
 have HCR:Zi (st.bad=0→Wi st ws=(st,Nb)):=fun h=>by rw[Wi,if_neg (by rw[h];decide),runA_no (cmdR_word fun j hj=>by rw[hn0];exact node_no j hj)]
 have HP:Zi (Calls prog 85 #[.string line,.int .u8 32] W (AnsS W ws)):=by rw[Zi,hws];exact Xz line 32 W (by omega)
 have HSh:Zi (Ns ws):=by rw[Zi,hws];exact Qc 32 (by omega)
 have hL:ws.length≤line.size+1:=by rw[hws];exact Qr line 32
 have hpos:0<ws.length:=by rw[hws];exact Jd line 32
 have HQ:=Zd (Nat.le_of_lt hq);have HQS:=Zd hq;clear hws;go_enter func86,ntmps86;go_wp2_with fail;refine HP.o.mono ?_;rintro e w0 ⟨⟨go,qc,rfl,hno,hF⟩,hb0⟩;obtain⟨g,rfl,hg1,hg2,hg3,_⟩:=hF.at hpos;have hcap:=hF.cap;have hI:=Zd hF.in;have d0:=Jf hI.o 0 hpos;have HB0:=Zd (hb0.mono HQ.o);obtain⟨x,hx⟩:=nmd (el ws 0);rw[←hx]at d0;have hgz:g<w0.1.size:=by omega
 have hpi:(0:Int)<(ws.length:Int):=by omega
 have HHB:=Zd hb0.size;have HBB:=Zd hb0;have hgq:q<g:=by omega
 have HTI:=Zd hI.o;clear hF hno hb0 hg2 hg3 HP hI hq;have hxn:x=Xw:=by rw[hx];exact hn0
 have f0:(x.toList==[110,111,100,101])=true:=by rw[hxn,show Xw.toList=[110,111,100,101]from by rw[Xw,Lib.toList_data]];rfl
 have b2:=hb2.o w0 HBB.o;have HFM:=Zd (Cv x);rw[hxn,Tp node_no,←hxn]at HFM;have qz:q<w0.1.size:=Nat.lt_of_lt_of_le HQS.o HHB.o;clear hx hn0 hxn;go_wp2_with fail;refine(HBG.o w0 HBB.o).mono ?_;rintro e w1 ⟨⟨bv,rfl⟩,hS1,hSC⟩;have e0:w1.cell? ⟨g,0,none⟩=some (.string x):=(World.cell?_of_block (a:=⟨g,0,none⟩) (hS1.block g hgz (by show¬g=q;omega))).trans d0;have hg1z:g<w1.1.size:=Nat.lt_of_lt_of_le hgz hS1.low.size;have HS1:=Zd hS1;have HSC:=Zd hSC;clear d0 b2 f0 hgz qz hS1 HBG hb2
 rcases hSC with⟨hf,_⟩|⟨_,hbad,o,c,us,hi,hQ,hg⟩|⟨_,hbad,o,c,us,hi,lo,p,bb,xs,ev,fv,uv,hQ,hg,hR⟩
 ·rw[hbg]at hf;cases hf
 ·
  have c3:=hQ.box.c 3 rfl;have cz:=hQ.box.size;have hd:(st.bad != 0)=true:=by simpa using hbad
  have HR:Zi (Wi st ws=(st,refT st.bad)):=by rw[Zi,Wi,if_pos hbad]
  have hb0:=hI0.bad0;have hb1:=hI0.bad1;have HQ1:=Zd hQ;have HG1:=Zd hg;obtain⟨bad,hbd⟩:=nmd (st.bad);rw[←hbd]at c3 hd HR hb0 hb1 hbad;have HBD:=Zd hbd;have HNB:=Zd hbad;clear hbd hQ hg hbad;go_wp2_with fail;refine(Jg bad (by omega) (by omega) w1).mono ?_;rintro e w4 ⟨rfl,hb4⟩;obtain⟨y,hy⟩:=nmd (tx (Lib.itoa bad));have hys:y.size≤100:=by rw[hy];exact Xq bad (by omega) (by omega)
  have hy6:¬9223372036854775807<6+y.size:=by omega
  have HY:=Zd hy;rw[←hy];have HB4:=Zd hb4;clear hy hb4 c3;go_wp2;refine bodyPost_ret (v:=.string (⟨#[103,114,97,112,104,32]⟩++y)) (by simp[results,results86,go_sem]) rfl ?_;rw[HR.o];refine⟨by rw[refT,←HY.o];rfl,.inr (.inl ⟨hbg,by rw[←HBD.o];exact HNB.o,o,c,us,hi,HQ1.o.later HB4.o,HG1.o⟩),?_⟩;exact(HB0.o.trans HS1.o.low).trans (HB4.o.mono (Nat.le_of_lt HQ1.o.box.size))
 ·have c3:=hQ.box.c 3 rfl;have cz:=hQ.box.size;have HRW:=Zd (HCR.o hbad);clear hQ hg hR HCR hbad;go_wp2_with fail;refine(HFM.o w1).mono ?_;rintro e w2 ⟨rfl,hw⟩;rw[hw];clear hw w2
  go_wp2;refine bodyPost_ret (v:=.string ⟨#[119,104,97,116]⟩) (by simp[results,results86,go_sem]) rfl ?_;rw[HRW.o];exact⟨rfl,HSC.o,HB0.o.trans HS1.o.low⟩
theorem lineS_rest(q:Nat)(W:World)(st:SS)(line:ByteArray)(ws:List ByteArray)(hws:ws=Zw line 32)(hq:q<W.1.size)(HBG:Zi (∀w0,Below W.1.size W w0→Calls prog 108 #[.pointer (some ⟨q,0,none⟩)] w0 fun e W'=>(∃v,e=.returned v)∧SStep q (OB q) (OB q) w0 W'∧ScQ q W' st))(hbg:st.bg=true)(hI0:SSI st)(hs:line.size≤3000)(hn0:el ws 0≠Xw) :
  Calls prog 86 #[.pointer (some ⟨q,0,none⟩),.string line] W (AnsRest q W (Wi st ws)):=by
 have HP:Zi (Calls prog 85 #[.string line,.int .u8 32] W (AnsS W ws)):=by rw[Zi,hws];exact Xz line 32 W (by omega)
 have HSh:Zi (Ns ws):=by rw[Zi,hws];exact Qc 32 (by omega)
 have hL:ws.length≤line.size+1:=by rw[hws];exact Qr line 32
 have hpos:0<ws.length:=by rw[hws];exact Jd line 32
 have HQ:=Zd (Nat.le_of_lt hq);have HQS:=Zd hq;clear hws;go_enter func86,ntmps86;go_wp2_with fail;refine HP.o.mono ?_;rintro e w0 ⟨⟨go,qc,rfl,hno,hF⟩,hb0⟩;obtain⟨g,rfl,hg1,hg2,hg3,_⟩:=hF.at hpos;have hcap:=hF.cap;have hI:=Zd hF.in;have d0:=Jf hI.o 0 hpos;have HB0:=Zd (hb0.mono HQ.o);obtain⟨x,hx⟩:=nmd (el ws 0);rw[←hx]at d0;have hgz:g<w0.1.size:=by omega
 have hpi:(0:Int)<(ws.length:Int):=by omega
 have HHB:=Zd hb0.size;have HBB:=Zd hb0;have hgq:q<g:=by omega
 have HTI:=Zd hI.o;clear hF hno hb0 hg2 hg3 HP hI hq;have HXW0:=Zd hx;have f0:(x.toList==[110,111,100,101])=false:=by
  rw[beq_eq_false_iff_ne];intro he
  apply hn0
  rw[←hx]
  apply Ze
  rw[he,Xw,Lib.toList_data]
 have HFM:=Zd (Cv x);clear hx hn0;go_wp2_with fail;refine(HBG.o w0 HBB.o).mono ?_;rintro e w1 ⟨⟨bv,rfl⟩,hS1,hSC⟩;have e0:w1.cell? ⟨g,0,none⟩=some (.string x):=(World.cell?_of_block (a:=⟨g,0,none⟩) (hS1.block g hgz (by show¬g=q;omega))).trans d0;have hg1z:g<w1.1.size:=Nat.lt_of_lt_of_le hgz hS1.low.size;have HTX:Zi (∀j,j<ws.length→w1.cell? ⟨g,j,none⟩=some (.string (el ws j))):=fun j hj=>(World.cell?_of_block (a:=⟨g,j,none⟩) (hS1.block g hgz (by show¬g=q;omega))).trans (Jf HTI.o j hj)
 have HS1:=Zd hS1;have HSC:=Zd hSC;clear d0 f0 hgz hS1 HBG
 rcases hSC with⟨hf,_⟩|⟨_,hbad,o,c,us,hi,hQ,hg⟩|⟨_,hbad,o,c,us,hi,lo,p,bb,xs,ev,fv,uv,hQ,hg,hR⟩
 ·rw[hbg]at hf;cases hf
 ·
  have c3:=hQ.box.c 3 rfl;have cz:=hQ.box.size;have hd:(st.bad != 0)=true:=by simpa using hbad
  have HR:Zi (Wi st ws=(st,refT st.bad)):=by rw[Zi,Wi,if_pos hbad]
  have hb0:=hI0.bad0;have hb1:=hI0.bad1;have HQ1:=Zd hQ;have HG1:=Zd hg;obtain⟨bad,hbd⟩:=nmd (st.bad);rw[←hbd]at c3 hd HR hb0 hb1 hbad;have HBD:=Zd hbd;have HNB:=Zd hbad;clear hbd hQ hg hbad;go_wp2_with fail;refine(Jg bad (by omega) (by omega) w1).mono ?_;rintro e w4 ⟨rfl,hb4⟩;obtain⟨y,hy⟩:=nmd (tx (Lib.itoa bad));have hys:y.size≤100:=by rw[hy];exact Xq bad (by omega) (by omega)
  have hy6:¬9223372036854775807<6+y.size:=by omega
  have HY:=Zd hy;rw[←hy];have HB4:=Zd hb4;clear hy hb4 c3;go_wp2;refine bodyPost_ret (v:=.string (⟨#[103,114,97,112,104,32]⟩++y)) (by simp[results,results86,go_sem]) rfl ?_;rw[HR.o];refine⟨by rw[refT,←HY.o];rfl,.inr (.inl ⟨hbg,by rw[←HBD.o];exact HNB.o,o,c,us,hi,HQ1.o.later HB4.o,HG1.o⟩),?_⟩;exact(HB0.o.trans HS1.o.low).trans (HB4.o.mono (Nat.le_of_lt HQ1.o.box.size))
 ·have c3:=hQ.box.c 3 rfl;have cz:=hQ.box.size;have HQ1:=Zd hQ;have HG1:=Zd hg;have HR1:=Zd hR;clear hQ hg hR
  by_cases hkx:∃k,k<11∧x=Vj k
  case neg =>
   have hkn:∀j,j<11→x≠Vj j:=fun j hj e=>hkx ⟨j,hj,e⟩
   rw[Tp hkn]at HFM;have HRW:Zi (Wi st ws=(st,Nb)):=by rw[Zi,Wi,if_neg (by rw[hbad];decide),runA_no (cmdR_word fun j hj=>by rw[←HXW0.o];exact hkn j hj)]
   clear hkx hkn;go_wp2_with fail;refine(HFM.o w1).mono ?_;rintro e w2 ⟨rfl,hw⟩;rw[hw];clear hw w2
   go_wp2;refine bodyPost_ret (v:=.string ⟨#[119,104,97,116]⟩) (by simp[results,results86,go_sem]) rfl ?_;rw[HRW.o];exact⟨rfl,HSC.o,HB0.o.trans HS1.o.low⟩
  obtain⟨k,hk,hxk⟩:=hkx;have HXX:=Zd hxk;have HXW:Zi (el ws 0=Vj k):=by rw[Zi,←HXW0.o];exact hxk
  rw[show formR x=((Uh k:Int),if k<6 then(k:Int)+1 else 0,true)from by rw[hxk];exact formR_is hk]at HFM;obtain⟨kd,hkd⟩:∃d:Int,d=if k<6 then(k:Int)+1 else 0:=⟨_,rfl⟩
  rw[←hkd]at HFM;have HKD:Zi ((k<6→kd=(k:Int)+1)∧(¬k<6→kd=0)):=⟨fun h=>by rw[hkd,if_pos h],fun h=>by rw[hkd,if_neg h]⟩;have hnk:=cmdN_le k;obtain⟨nn,hnn⟩:=nmd (Uh k);rw[←hnn]at HFM hnk;have HNN:=Zd hnn;have hwr:IntKind.i64.wrap (1+(nn:Int))=1+(nn:Int):=by rw[IntKind.wrap_i64] <;> omega
  clear hkd hxk hnn
  by_cases hwl0:ws.length=1+nn
  case neg =>
   have hd:((ws.length:Int) != 1+(nn:Int))=true:=by simp;omega
   have HRW:Zi (Wi st ws=(st,Nb)):=by rw[Zi,Wi,if_neg (by rw[hbad];decide),runA_no (cmdR_many hk HXW.o (by rw[←HNN.o];exact hwl0) hpos)]
   clear hwl0;go_wp2_with fail;refine(HFM.o w1).mono ?_;rintro e w2 ⟨rfl,hw⟩;rw[hw];clear hw w2
   go_wp2;refine bodyPost_ret (v:=.string ⟨#[119,104,97,116]⟩) (by simp[results,results86,go_sem]) rfl ?_;rw[HRW.o];exact⟨rfl,HSC.o,HB0.o.trans HS1.o.low⟩
  have hd:((ws.length:Int) != 1+(nn:Int))=false:=by simp;omega
  have HWL:Zi (ws.length=1+Uh k):=by rw[Zi,←HNN.o];exact hwl0
  have HWL0:=Zd hwl0;have HSh2:=Zd HSh.o;clear hwl0
  by_cases hq1:qc=1
  ·obtain rfl:=hq1;have HN1:Zi (Jm (ws.drop 1)=some []):=by
    have:ws.drop 1=[]:=List.length_eq_zero_iff.1 (by rw[List.length_drop];omega);rw[Zi,this];rfl
   have hz1:¬0<ws.length-1:=by omega
   have hz2:decide ((0:Int)<((ws.length-1:Nat):Int))=false:=by simp;omega
   go_wp2_with fail;refine(HFM.o w1).mono ?_;rintro e w2 ⟨rfl,hw⟩;rw[hw];clear hw w2
   clear c3;go_wp2;clear hd hwr
   go_loopw [11,87] (fun u i wr=>∃(v:Value)(acc:List Int),v=u∧i=.int .i64 0∧Zi (kI.Own w1.1.size wr v acc)∧Zi (Jm (ws.drop 1)=some acc)∧Zi (Below w1.1.size w1 wr)) (fun _ _ _=>0)
   case atStart=>exact⟨_,[],rfl,rfl,Kind.Own.nil _ _ _,HN1.o,Below.refl _ _⟩
   case round =>
    obtain⟨v,acc,rfl,rfl,hO,hN,hB⟩:=hrel;obtain⟨qo,qc2,rfl,_,hF9⟩:=hO.o.in;have hgq9:∀a,qo=some a→q<a.block:=fun a ha=>by
     subst ha;have:=(Zj hO.o (b:=a.block) (by simp[Value.ownBlock])).1;have:=HQ1.o.box.size
     omega
    have HRR:Zi (Wi st ws=Jl st ((k:Int)+1) acc):=by rw[Zi,Wi,if_neg (by rw[hbad];decide),runA,cmdR_yes hk HXW.o HWL.o hN.o]
    have hla:acc.length=Uh k:=by have:=Vd hN.o;have h9:=HWL.o;rw[List.length_drop]at this;omega
    have hQr:=HQ1.o.later hB.o;have HMV:=Zd (fun(h6:k<6)=>moveS_all q wr o c us hi lo p bb xs ev fv uv st hQr HG1.o k h6 qo qc2 acc hla hF9 hgq9);have HTL:=Zd (fun(h6:¬k<6)=>tells_all q wr o c us hi lo p bb xs ev fv uv st hQr HG1.o HR1.o k hk h6 qo qc2 acc hla hF9);have HOF:=Zd (fun(W':World) (e:Ending) (hA:Da q wr o c us hi lo p (Jl st ((k:Int)+1) acc).2 (Jl st ((k:Int)+1) acc).1.s (Jl st ((k:Int)+1) acc).1.n e W')=>ScQ.of q wr W' o c us hi lo p st hbg hbad HG1.o hI0 ((k:Int)+1) acc hA);have d9:=(hB.o.cell (p:=⟨g,0,none⟩) (by dsimp only;omega)).trans e0;have hgr:g<wr.1.size:=Nat.lt_of_lt_of_le hg1z hB.o.size;have HBR:=Zd (Below.trans (HB0.o.trans HS1.o.low) (hB.o.mono (Nat.le_of_lt HQ1.o.box.size)));obtain⟨A,hA⟩:=nmd (Jl st ((k:Int)+1) acc);rw[←hA]at HRR HOF HMV HTL;obtain⟨st2,T⟩:=A;dsimp only at HRR HOF HMV HTL;have HLA:=Zd hla;clear hA hF9 hgq9 hO hN hQr hla hB
    by_cases h6:k<6
    ·have hkd:kd=(k:Int)+1:=HKD.o.1 h6;have hgt:decide ((0:Int)<kd)=true:=by simp;omega
     have HM:=Zd (HMV.o h6);rw[←hkd]at HM;clear HMV HTL hkd h6;go_wp2_with fail;refine HM.o.mono ?_;intro e w9 hA;obtain⟨rfl,hS,hl⟩:=HOF.o w9 e hA;have HS9:=Zd hS;have HL9:=Zd hl;clear hA hS hl HM HOF;go_wp2;refine bodyPost_ret (v:=.string T) (by simp[results,results86,go_sem]) rfl ?_;rw[HRR.o];exact⟨rfl,HS9.o,HBR.o.trans HL9.o⟩
    ·have hkd:kd=0:=HKD.o.2 h6;have hgt:decide ((0:Int)<kd)=false:=by simp;omega
     have HM:=Zd (HTL.o h6);rw[←HXX.o]at HM;clear HMV HTL hkd h6;go_wp2_with fail;refine HM.o.mono ?_;intro e w9 hA;obtain⟨rfl,hS,hl⟩:=HOF.o w9 e hA;have HS9:=Zd hS;have HL9:=Zd hl;clear hA hS hl HM HOF;go_wp2;refine bodyPost_ret (v:=.string T) (by simp[results,results86,go_sem]) rfl ?_;rw[HRR.o];exact⟨rfl,HS9.o,HBR.o.trans HL9.o⟩
  ·go_wp2_with fail;refine(HFM.o w1).mono ?_;rintro e w2 ⟨rfl,hw⟩;rw[hw];clear hw w2
   clear c3;go_wp2;clear hd hwr
   go_loopw [11,87] (fun u i wr=>∃(m:Nat)(v:Value)(acc:List Int),v=u∧m≤ws.length-1∧acc.length≤m∧i=.int .i64 (m:Int)∧Zi (kI.Own w1.1.size wr v acc)∧Zi (Jm ((ws.drop 1).take m)=some acc)∧Zi (Below w1.1.size w1 wr)) (fun _ i _=>ws.length-1-(intOf i).toNat)
   case atStart=>exact⟨0,_,[],rfl,Nat.zero_le _,Nat.le_refl _,rfl,Kind.Own.nil _ _ _,rfl,Below.refl _ _⟩
   case round =>
    obtain⟨m,v,acc,rfl,hm,hal,rfl,hO,hN,hB⟩:=hrel
    by_cases hlt:m<ws.length-1
    ·have d1:=(hB.o.cell (p:=⟨g,1+m,none⟩) (by dsimp only;omega)).trans (HTX.o (1+m) (by omega));have hgr:g<wr.1.size:=Nat.lt_of_lt_of_le hg1z hB.o.size;have hdl:m<(ws.drop 1).length:=by rw[List.length_drop];omega
     have hel:el (ws.drop 1) m=el ws (1+m):=by simp[el,Nat.add_comm]
     have hnum:=Ve (el ws (1+m)) wr (HSh2.o _ (Zl (by omega)));have hmem:=Zl hdl;have htk:=Zy hdl;rw[hel]at hmem htk
     cases hn:Wn (el ws (1+m)).data.toList with
     |none =>
      have HRW:Zi (Wi st ws=(st,Nb)):=by rw[Zi,Wi,if_neg (by rw[hbad];decide),runA_no (cmdR_nums (Vs hmem hn))]
      rw[Xr hn]at hnum;dsimp only at hnum;have HM:=Zd hnum
      generalize el ws (1+m)=y at d1 HM
      have HBr:=Zd hB.o;clear hnum hmem htk hn hO hN hel hdl hB;go_wp2_with fail;refine HM.o.mono ?_;rintro e w3 ⟨rfl,hw⟩;rw[hw];clear hw w3
      go_wp2;refine bodyPost_ret (v:=.string ⟨#[119,104,97,116]⟩) (by simp[results,results86,go_sem]) rfl ?_;rw[HRW.o];exact⟨rfl,HSC.o.later HBr.o,(HB0.o.trans HS1.o.low).trans (HBr.o.mono (Nat.le_of_lt HQ1.o.box.size))⟩
     |some n =>
      have HN2:Zi (Jm ((ws.drop 1).take (m+1))=some (acc++[n])):=by rw[Zi,htk];exact Gu _ _ _ _ hN.o hn
      rw[Vx hn]at hnum;dsimp only at hnum;have HM:=Zd hnum
      generalize el ws (1+m)=y at d1 HM
      clear hnum hmem htk hn hN hel hdl;go_wp2_with fail;refine HM.o.mono ?_;rintro e w3 ⟨rfl,hw⟩;rw[hw];clear hw w3
      have HA:Zi (kI.Own w1.1.size (wr.alloc (.cells #[.int .i64 n] 3)) v acc):=hO.o.below (Zk _ _);have HNN9:Zi (kI.In (wr.1.size+1) (wr.alloc (.cells #[.int .i64 n] 3)) (some ⟨wr.1.size,0,none⟩) [n]):=Kc (by omega) (by simp);have HBa:Zi (Below w1.1.size w1 (wr.alloc (.cells #[.int .i64 n] 3))):=Zx hB.o _;have hll:acc.length+1≤4194304:=by omega
      have hs1:=hB.o.size;clear hO HM hB d1;go_wp2_with (at_builtin;refine Kind.app Vq (wr.alloc (.cells #[.int .i64 n] 3)) rfl (.tmp 98) (.tmp 100) rfl w1.1.size v acc rfl HA.o (by simp;omega) (some ⟨wr.1.size,0,none⟩) [n] 1 1 rfl rfl (by simp) _ HNN9.o hll ?_;intro v' w' hO' hB' hG' hn';have HB2:Zi (Below w1.1.size w1 w'):=HBa.o.trans (hB'.mono (by omega));have HO':Zi (kI.Own w1.1.size w' v' (acc++[n])):=hO';clear hO' hB' hG' hn');go_roundw
      case rel=>exact⟨m+1,v',acc++[n],rfl,by omega,by simp;omega,by go_num,HO',HN2,HB2⟩
      case measure=>simp[intOf];omega
    ·obtain rfl:m=ws.length-1:=by omega
     rw[List.take_of_length_le (by rw[List.length_drop];omega)]at hN;obtain⟨qo,qc2,rfl,_,hF9⟩:=hO.o.in;have hgq9:∀a,qo=some a→q<a.block:=fun a ha=>by
      subst ha;have:=(Zj hO.o (b:=a.block) (by simp[Value.ownBlock])).1;have:=HQ1.o.box.size
      omega
     have HRR:Zi (Wi st ws=Jl st ((k:Int)+1) acc):=by rw[Zi,Wi,if_neg (by rw[hbad];decide),runA,cmdR_yes hk HXW.o HWL.o hN.o]
     have hla:acc.length=Uh k:=by have:=Vd hN.o;have h9:=HWL.o;rw[List.length_drop]at this;omega
     have hQr:=HQ1.o.later hB.o;have HMV:=Zd (fun(h6:k<6)=>moveS_all q wr o c us hi lo p bb xs ev fv uv st hQr HG1.o k h6 qo qc2 acc hla hF9 hgq9);have HTL:=Zd (fun(h6:¬k<6)=>tells_all q wr o c us hi lo p bb xs ev fv uv st hQr HG1.o HR1.o k hk h6 qo qc2 acc hla hF9);have HOF:=Zd (fun(W':World) (e:Ending) (hA:Da q wr o c us hi lo p (Jl st ((k:Int)+1) acc).2 (Jl st ((k:Int)+1) acc).1.s (Jl st ((k:Int)+1) acc).1.n e W')=>ScQ.of q wr W' o c us hi lo p st hbg hbad HG1.o hI0 ((k:Int)+1) acc hA);have d9:=(hB.o.cell (p:=⟨g,0,none⟩) (by dsimp only;omega)).trans e0;have hgr:g<wr.1.size:=Nat.lt_of_lt_of_le hg1z hB.o.size;have HBR:=Zd (Below.trans (HB0.o.trans HS1.o.low) (hB.o.mono (Nat.le_of_lt HQ1.o.box.size)));obtain⟨A,hA⟩:=nmd (Jl st ((k:Int)+1) acc);rw[←hA]at HRR HOF HMV HTL;obtain⟨st2,T⟩:=A;dsimp only at HRR HOF HMV HTL;have HLA:=Zd hla;clear hA hF9 hgq9 hO hN hQr hla hB
     by_cases h6:k<6
     ·have hkd:kd=(k:Int)+1:=HKD.o.1 h6;have hgt:decide ((0:Int)<kd)=true:=by simp;omega
      have HM:=Zd (HMV.o h6);rw[←hkd]at HM;clear HMV HTL hkd h6;go_wp2_with fail;refine HM.o.mono ?_;intro e w9 hA;obtain⟨rfl,hS,hl⟩:=HOF.o w9 e hA;have HS9:=Zd hS;have HL9:=Zd hl;clear hA hS hl HM HOF;go_wp2;refine bodyPost_ret (v:=.string T) (by simp[results,results86,go_sem]) rfl ?_;rw[HRR.o];exact⟨rfl,HS9.o,HBR.o.trans HL9.o⟩
     ·have hkd:kd=0:=HKD.o.2 h6;have hgt:decide ((0:Int)<kd)=false:=by simp;omega
      have HM:=Zd (HTL.o h6);rw[←HXX.o]at HM;clear HMV HTL hkd h6;go_wp2_with fail;refine HM.o.mono ?_;intro e w9 hA;obtain⟨rfl,hS,hl⟩:=HOF.o w9 e hA;have HS9:=Zd hS;have HL9:=Zd hl;clear hA hS hl HM HOF;go_wp2;refine bodyPost_ret (v:=.string T) (by simp[results,results86,go_sem]) rfl ?_;rw[HRR.o];exact⟨rfl,HS9.o,HBR.o.trans HL9.o⟩
theorem restR_is(st:SS)(line:ByteArray)(h1:¬(st.bg=false∧el (Zw line 32) 0=Xw)):Lc st line=Wi (Nr st) (Zw line 32):=by
 unfold Wi
 by_cases h2:(Nr st).bad=0
 ·rw[if_neg (by rw[h2];decide),ansR_run st line h1 h2]
 ·rw[if_pos h2,ansR_bad st line h1 h2]
theorem lineS_any(q:Nat)(W:World)(st:SS)(line:ByteArray)(h:ScQ q W st)(hI:SSI st)(hs:line.size≤3000) :
  Calls prog 86 #[.pointer (some ⟨q,0,none⟩),.string line] W (AnsLq q W st line):=by
 have hqW:=h.size
 by_cases hadd:st.bg=false∧el (Zw line 32) 0=Xw
 ·rcases h with⟨hb,o,c,us,hi,hP,hg⟩|⟨hb,_⟩|⟨hb,_⟩
  ·refine(lineS_add q W o c us hi line _ rfl hP hs hadd.2).mono ?_;rintro e W' ⟨rfl,o',c',us',hi',P',hu,hl⟩;have hlen:us.length=st.gs.length:=by rw[←hg,Zb]
   have ha:Lc st line=addR st line:=by unfold Lc;rw[if_pos hadd]
   rw[AnsLq,ha]
   unfold addR
   rw[hlen]at hu ⊢
   split
   ·rename_i h1;rw[if_pos h1]at hu;exact⟨rfl,.inl ⟨hb,o',c',us',hi',P',by rw[hu,hg]⟩,hl⟩
   ·rename_i h1;rw[if_neg h1]at hu;exact⟨rfl,.inl ⟨hb,o',c',us',hi',P',by rw[hu,hg]⟩,hl⟩
  ·rw[hb]at hadd;cases hadd.1
  ·rw[hb]at hadd;cases hadd.1
 ·rw[show AnsLq q W st line=AnsRest q W (Wi (Nr st) (Zw line 32))from by funext e W';rw[AnsLq,AnsRest,restR_is st line hadd]];have hbg:(Nr st).bg=true:=by unfold Nr;split <;> simp_all
  have HBG:Zi (∀w0,Below W.1.size W w0→Calls prog 108 #[.pointer (some ⟨q,0,none⟩)] w0 fun e W'=>(∃v,e=.returned v)∧SStep q (OB q) (OB q) w0 W'∧ScQ q W' (Nr st)):=fun w0 hb0=>by
   rcases h with⟨hb,o,c,us,hi,hP,hg⟩|⟨hb,hbad,o,c,us,hi,hP,hg⟩|⟨hb,hbad,o,c,us,hi,lo,p,bb,xs,ev,fv,uv,hP,hg,hR⟩
   ·refine(beginS_any q w0 o c us hi (hP.later hb0)).mono ?_;rintro e W' ⟨hv,hS,hA⟩;have hbs:=begS_of hb hg;refine⟨hv,hS,?_⟩
    by_cases h0:Hz (us.map Zz)=0
    ·rw[if_pos h0]at hA;obtain⟨lo,p,bb,xs,ev,fv,uv,hQ⟩:=hA;rw[hbs,h0];exact .inr (.inr ⟨rfl,rfl,o,c,us,hi,lo,p,bb,xs,ev,fv,uv,hQ,rfl,RgI.zero hQ.fit.1⟩)
    ·rw[if_neg h0]at hA;rw[hbs];exact .inr (.inl ⟨rfl,h0,o,c,us,hi,hA,rfl⟩)
   ·refine(Cs q w0 _ _ _ _ (hP.later hb0).box).mono ?_;rintro e W' ⟨hv,rfl⟩;rw[Tu hb];exact⟨hv,SStep.refl _ _ _,.inr (.inl ⟨hb,hbad,o,c,us,hi,hP.later hb0,hg⟩)⟩
   ·refine(Cs q w0 _ _ _ _ (hP.later hb0).box).mono ?_;rintro e W' ⟨hv,rfl⟩;rw[Tu hb];exact⟨hv,SStep.refl _ _ _,.inr (.inr ⟨hb,hbad,o,c,us,hi,lo,p,bb,xs,ev,fv,uv,hP.later hb0,hg,hR⟩)⟩
  by_cases hw:el (Zw line 32) 0=Xw
  ·have hb:st.bg=true:=by
    cases hc:st.bg with
    |true=>rfl
    |false=>exact absurd ⟨hc,hw⟩ hadd
   refine lineS_node q W (Nr st) line _ rfl hqW HBG hbg hI.beg hs hw fun w0 hb0=>?_
   rcases h with⟨hf,_⟩|⟨_,hbad,o,c,us,hi,hP,hg⟩|⟨_,hbad,o,c,us,hi,lo,p,bb,xs,ev,fv,uv,hP,hg,hR⟩
   ·rw[hb]at hf;cases hf
   ·exact(hP.later hb0).box.c 2 rfl
   ·exact(hP.later hb0).box.c 2 rfl
  ·exact lineS_rest q W (Nr st) line _ rfl hqW HBG hbg hI.beg hs hw
def AnsLR(W:World)(text:ByteArray)(e:Ending)(W':World):Prop :=
  (if(Qy text).2=true then∃q,W.1.size≤q∧e=.returned (.tuple #[.pointer (some ⟨q,0,none⟩),.string (tx (catL (Qz st0 (Qy text).1).2)),.bool true])∧ScQ q W' (Qz st0 (Qy text).1).1
   else∃q,e=.returned (.tuple #[.pointer (some ⟨q,0,none⟩),.string ⟨#[]⟩,.bool false]))∧Below W.1.size W W'
theorem linesR_yes{s:ByteArray}(h:s.size≤3000∧(Zw s 10).length≤201∧el (Zw s 10) ((Zw s 10).length-1)=⟨#[]⟩):Qy s=((Zw s 10).take ((Zw s 10).length-1),true):=if_pos h
theorem linesR_no{s:ByteArray}(h:¬(s.size≤3000∧(Zw s 10).length≤201∧el (Zw s 10) ((Zw s 10).length-1)=⟨#[]⟩)):Qy s=([],false):=if_neg h
end Go.Proofs.YtdacedbfnlkghaaGreatDoor