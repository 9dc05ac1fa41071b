/- A node added by a line: the specification. What a script of the specification does with a command: moves and what is told, in one. A line of the specification's script. A line of the specification's script, whatever it has come to; a script run. The graph of a script's text: the program. No conditions but those written. -/
import Derived.Test.YtdacedbfnlkghaaGreatDoorQTpj
namespace Go.Proofs.YtdacedbfnlkghaaGreatDoor
set_option maxHeartbeats 16000000
set_option maxRecDepth 100000
open Go.RowKit Go.Proofs.Tryz
def AnsAq(q:Nat)(W:World)(_o:Option Addr)(us:List LNode)(line:ByteArray)(e:Ending)(W':World):Prop:=e=.returned (.string (if(Ke line).2=true∧us.length≠10 then okT else noT))∧(∃o' c' us' hi',QA q W' o' c' us' hi'∧us'.map Zz=(if(Ke line).2=true∧us.length≠10 then us.map Zz++[pnode (Ke line).1]else us.map Zz)∧Below q W W')
theorem lineS_add(q:Nat)(W:World)(o:Option Addr)(c:Nat)(us:List LNode)(hi:Nat)(line:ByteArray)(ws:List ByteArray)(hws:ws=Zw line 32)(h:QA q W o c us hi)(hs:line.size≤3000)(hw0:el ws 0=Xv) :
  Calls prog 86 #[.pointer (some ⟨q,0,none⟩),.string line] W (AnsAq q W o us line):=by
 have HP:Zi (Calls prog 85 #[.string line,.int .u8 32] W (AnsS W ws)):=by rw[Zi,hws];exact Kt line 32 W (by omega)
 have HSh:Zi (Na ws):=by rw[Zi,hws];exact Qy 32 (by omega)
 have hL:ws.length≤line.size+1:=by rw[hws];exact Qp line 32
 have hpos:0<ws.length:=by rw[hws];exact Jc line 32
 have H:=Zd h;have HQ:=Zd (Nat.le_of_lt h.box.size);clear hws h;go_enter func86,ntmps86;go_wp2_with fail;refine HP.o.mono ?_;rintro e w0 ⟨⟨go,qc,rfl,hno,hF⟩,hb0⟩;obtain⟨g,rfl,hg1,hg2,hg3,_⟩:=hF.at hpos;have hcap:=hF.cap;have hI:=Zd hF.in;have d0:=Je hI.o 0 hpos;have HH:=Zd (H.o.later hb0);have HB0:=Zd (hb0.mono HQ.o);have HQS:Zi (q<W.1.size):=H.o.box.size;obtain⟨x,hx⟩:=nmd (el ws 0);rw[←hx]at d0;have hgz:g<w0.1.size:=by omega
 have hpi:(0:Int)<(ws.length:Int):=by omega
 have HHB:=Zd hb0.size;clear hF hno hb0 hg2 hg3 HP H;have b2:=HH.o.box.c 2 rfl;have b2z:=HH.o.box.size;have hn0:x=Xv:=by rw[hx];exact hw0
 have f0:(x.toList==[110,111,100,101])=true:=by rw[hn0,show Xv.toList=[110,111,100,101]from by rw[Xv,Lib.toList_data]];rfl
 clear hx hw0 hn0;have HRN:=Zd (Lf line w0 (by omega));have HF:=Zd (readR_fit (s:=line) hs);clear hs;obtain⟨⟨⟨nm,kd,sa,sb,cp,nx⟩,y⟩,hR⟩:∃R,Ke line=R:=⟨_,rfl⟩;rw[hR]at HRN HF;dsimp only at HF;have HR:=Zd hR;clear hR;go_wp2_with fail;refine HRN.o.mono ?_;clear d0 b2 b2z f0 hgz hg1;rintro e w1 ⟨⟨nxo,nxc,rfl,hno,hF⟩,hb1⟩;dsimp only at hF;dsimp only;obtain⟨V,hV⟩:=nmd (w1.alloc (.cells #[.string nm,.int .i64 kd,.int .i64 sa,.int .i64 sb,.int .i64 cp,.slice nxo nx.length nxc] 27));have hbV:Below w1.1.size w1 V:=by rw[hV];exact Zk _ _
 have XN:Bx V w1.1.size [.string nm,.int .i64 kd,.int .i64 sa,.int .i64 sb,.int .i64 cp,.slice nxo nx.length nxc]:=by rw[hV];exact Bx.new [.string nm,.int .i64 kd,.int .i64 sa,.int .i64 sb,.int .i64 cp,.slice nxo nx.length nxc] _ rfl
 have hVs:w1.1.size<V.1.size:=XN.size;have hBV:=hb1.trans (hbV.mono hb1.size);have PV:=Zd (HH.o.later hBV);have FX:=Zd (hF.later hbV);have HV:=Zd hV;have HBV:=Zd hBV;have hW1:w0.1.size≤w1.1.size:=hb1.size;have q0:=PV.o.box.c 0 rfl;have qz:=PV.o.box.size;have hul:us.length≤10:=PV.o.fit.1;clear hV hbV hb1 hF hno HRN
 go_upto_region 4 with fail
 rw[←HV.o];clear HV
 cases y with
 |false =>
  go_wp2;refine bodyPost_ret (v:=.string ⟨#[110,111]⟩) (by simp[results,results86,go_sem]) rfl ?_;exact⟨by rw[if_neg (fun hh=>by rw[HR.o]at hh;cases hh.1)];rfl,o,c,us,hi,PV.o,by rw[if_neg (fun hh=>by rw[HR.o]at hh;cases hh.1)],HB0.o.trans (HBV.o.mono (Nat.le_of_lt HH.o.box.size))⟩
 |true =>
  by_cases h10:us.length=10
  ·have hd:((us.length:Int)==10)=true:=by rw[h10];rfl
   have H10:=Zd h10;clear h10;go_wp2;refine bodyPost_ret (v:=.string ⟨#[110,111]⟩) (by simp[results,results86,go_sem]) rfl ?_;exact⟨by rw[if_neg (fun hh=>hh.2 H10.o)];rfl,o,c,us,hi,PV.o,by rw[if_neg (fun hh=>hh.2 H10.o)],HB0.o.trans (HBV.o.mono (Nat.le_of_lt HH.o.box.size))⟩
  ·have hd:((us.length:Int)==10)=false:=by simp;omega
   have H10:=Zd h10;clear h10
   go_upto_region 6 with fail
   have C0:Zi (V.cell? ⟨q,0,none⟩=some (.slice o us.length c)∧V.cell? ⟨w1.1.size,0,none⟩=some (.string nm)∧V.cell? ⟨w1.1.size,1,none⟩=some (.int .i64 kd)∧V.cell? ⟨w1.1.size,2,none⟩=some (.int .i64 sa)∧V.cell? ⟨w1.1.size,3,none⟩=some (.int .i64 sb)∧V.cell? ⟨w1.1.size,4,none⟩=some (.int .i64 cp)∧V.cell? ⟨w1.1.size,5,none⟩=some (.slice nxo nx.length nxc)):=⟨q0,XN.c 0 rfl,XN.c 1 rfl,XN.c 2 rfl,XN.c 3 rfl,XN.c 4 rfl,XN.c 5 rfl⟩;clear XN;refine Zu (zl:=[10]) (S:=fun Y=>Y.cell? ⟨q,0,none⟩=some (.slice o us.length c)∧Y.cell? ⟨w1.1.size,0,none⟩=some (.string nm)∧Y.cell? ⟨w1.1.size,1,none⟩=some (.int .i64 kd)∧Y.cell? ⟨w1.1.size,2,none⟩=some (.int .i64 sa)∧Y.cell? ⟨w1.1.size,3,none⟩=some (.int .i64 sb)∧Y.cell? ⟨w1.1.size,4,none⟩=some (.int .i64 cp)∧Y.cell? ⟨w1.1.size,5,none⟩=some (.slice nxo nx.length nxc)) (by kernel_rfl) C0.o (fun hH=>?_);refine Zq 0 hH ?_;refine Zq 1 hH ?_;refine Zq 2 hH ?_;refine Zq 3 hH ?_;refine Zq 4 hH ?_;refine Zq 5 hH ?_;refine Walks.on 6 fun K hK=>?_
   go_simp;obtain⟨U,hU⟩:=nmd ((V.alloc (.cells #[.string nm,.int .i64 kd,.int .i64 sa,.int .i64 sb,.int .i64 cp,.slice nxo nx.length nxc] 27)).drew);rw[←hU];have hbU:Below V.1.size V U:=by rw[hU];exact(Zk V _).drew
   have hN:Gq.In U.1.size U (some ⟨V.1.size,0,none⟩) [((nm,kd,sa,sb,cp,(nxo,nxc,nx)):LNode)]:=by
    have hx:Bx U V.1.size [.string nm,.int .i64 kd,.int .i64 sa,.int .i64 sb,.int .i64 cp,.slice nxo nx.length nxc]:=by rw[hU];exact(Bx.new (w:=V) [.string nm,.int .i64 kd,.int .i64 sa,.int .i64 sb,.int .i64 cp,.slice nxo nx.length nxc] 27 rfl).drew
    exact hNode_one hx.size hx
   have PU:=Zd (PV.o.later hbU);have FU:=Zd (FX.o.later hbU);have C1:=C0.o;have hqV:q<V.1.size:=qz;have CU:U.cell? ⟨q,0,none⟩=some (.slice o us.length c):=(hbU.cell (p:=⟨q,0,none⟩) hqV).trans C1.1;have hBU:=HBV.o.trans (hbU.mono HBV.o.size);have hsU:V.1.size≤U.1.size:=hbU.size;refine hK.out _ _ (fun _=>⟨CU,(hbU.cell (p:=⟨w1.1.size,0,none⟩) hVs).trans C1.2.1,(hbU.cell (p:=⟨w1.1.size,1,none⟩) hVs).trans C1.2.2.1,(hbU.cell (p:=⟨w1.1.size,2,none⟩) hVs).trans C1.2.2.2.1,(hbU.cell (p:=⟨w1.1.size,3,none⟩) hVs).trans C1.2.2.2.2.1,(hbU.cell (p:=⟨w1.1.size,4,none⟩) hVs).trans C1.2.2.2.2.2.1,(hbU.cell (p:=⟨w1.1.size,5,none⟩) hVs).trans C1.2.2.2.2.2.2⟩) (fun hU0=>?_);clear hK K hU C1 hU0;have hhi0:=PU.o.hi0;have hhi1:hi≤w0.1.size:=HH.o.hi1;refine Walks.on 7 fun K hK=>?_
   refine Jd hNode_ok U (by rfl) (.tmp 48) (.tmp 50) (by rfl) (q+1) (.slice o us.length c) us (by rfl) (by exact PU.o.gr.2.1) (by omega) (some ⟨V.1.size,0,none⟩) [((nm,kd,sa,sb,cp,(nxo,nxc,nx)):LNode)] 1 1 (by rfl) rfl (by simp) _ hN (by simp;omega) ?_;intro v' w2 hO2 hB2 hG2 hw2;obtain⟨tq,tc,rfl,hGR⟩:=gr_app PU.o.gr (FU.o.wide (show hi≤w0.1.size by omega) (by omega)) (by omega) (by omega) hO2 hG2;obtain⟨zs,hzs⟩:=nmd (us++[((nm,kd,sa,sb,cp,(nxo,nxc,nx)):LNode)]);rw[←hzs]at hGR hw2 ⊢;have hob:∀b,(Value.slice o us.length c).ownBlock=some b→q+1≤b∧b<hi:=fun b hb=>rw_block PU.o.gr.2 hb
   have hkp:∀b,b<U.1.size→(b=q∨w0.1.size≤b)→w2.heap[b]? = U.heap[b]? := fun b hb hc=>hG2.block b hb fun e=>by have:=hob b e.symm;omega
   have hqU:q<U.1.size:=by omega
   have hnU:w1.1.size<U.1.size:=by omega
   have X2:Bx w2 q [.slice o us.length c,.pointer none,.bool false,.int .i64 0,.int .i64 0]:=PU.o.box.keep hG2.size (hkp q hqU (.inl rfl));have c2:=X2.c 0 rfl;have f2:=X2.f 0 rfl;have z2:=X2.size;have HX2:=Zd X2;have HS2:Zi (w2.cell? ⟨q,0,none⟩=some (.slice o us.length c)∧w2.cell? ⟨w1.1.size,0,none⟩=some (.string nm)∧w2.cell? ⟨w1.1.size,1,none⟩=some (.int .i64 kd)∧w2.cell? ⟨w1.1.size,2,none⟩=some (.int .i64 sa)∧w2.cell? ⟨w1.1.size,3,none⟩=some (.int .i64 sb)∧w2.cell? ⟨w1.1.size,4,none⟩=some (.int .i64 cp)∧w2.cell? ⟨w1.1.size,5,none⟩=some (.slice nxo nx.length nxc)):=by
    have hk1:=hkp w1.1.size hnU (.inr hW1);have C1:=C0.o;exact⟨c2,(World.cell?_of_block (a:=⟨w1.1.size,0,none⟩) hk1).trans ((hbU.cell (p:=⟨w1.1.size,0,none⟩) hVs).trans C1.2.1),(World.cell?_of_block (a:=⟨w1.1.size,1,none⟩) hk1).trans ((hbU.cell (p:=⟨w1.1.size,1,none⟩) hVs).trans C1.2.2.1),(World.cell?_of_block (a:=⟨w1.1.size,2,none⟩) hk1).trans ((hbU.cell (p:=⟨w1.1.size,2,none⟩) hVs).trans C1.2.2.2.1),(World.cell?_of_block (a:=⟨w1.1.size,3,none⟩) hk1).trans ((hbU.cell (p:=⟨w1.1.size,3,none⟩) hVs).trans C1.2.2.2.2.1),(World.cell?_of_block (a:=⟨w1.1.size,4,none⟩) hk1).trans ((hbU.cell (p:=⟨w1.1.size,4,none⟩) hVs).trans C1.2.2.2.2.2.1),(World.cell?_of_block (a:=⟨w1.1.size,5,none⟩) hk1).trans ((hbU.cell (p:=⟨w1.1.size,5,none⟩) hVs).trans C1.2.2.2.2.2.2)⟩
   have HFIN:Zi (AnsAq q W o us line (.returned (.string okT)) (w2.setCell ⟨q,0,none⟩ (.slice tq zs.length tc))):=by
    have hc:(Ke line).2=true∧us.length≠10:=⟨by rw[HR.o],H10.o⟩;have hfn:=HF.o rfl;have hul2:=H10.o;refine⟨by rw[if_pos hc],tq,tc,zs,w2.1.size,⟨X2.set 0 _,hGR.setOff (.inl (by dsimp only;omega)) _,⟨by rw[hzs];simp;omega,fun a ha=>?_⟩,by simp[World.setCell],by omega⟩,?_,?_⟩
    ·rw[hzs]at ha
     rcases List.mem_append.1 ha with ha|ha
     ·exact PV.o.fit.2 a ha
     ·rw[List.mem_singleton.1 ha];exact hfn
    ·rw[if_pos hc,hzs,List.map_append,HR.o];rfl
    ·exact HB0.o.trans (((hBU.mono (Nat.le_of_lt HH.o.box.size)).trans (hB2.mono (by omega)))|> bbs)
   clear hzs;refine hK.out _ _ (fun _=>HS2.o) (fun _=>?_);clear hK K hO2 hB2 hG2 hw2 hGR hob hkp X2 C0;refine Walks.on 8 fun K hK=>?_
   go_simp;refine hK.out _ _ (fun _=>HS2.o) (fun _=>?_);clear hK K;refine Walks.on 9 fun K hK=>?_
   go_simp;refine hK.out _ _ (fun _=>HS2.o) (fun _=>?_);clear hK K;refine Walks.on 10 fun K hK=>?_
   go_simp;refine hK.out _ _ (fun h=>absurd h (by decide)) (fun _=>?_);clear hK K;refine Walks.done (by kernel_rfl) ?_ _;go_wp2;refine bodyPost_ret (v:=.string ⟨#[111,107]⟩) (by simp[results,results86,go_sem]) rfl ?_;exact HFIN.o
theorem num2_of{q:Nat}{W:World}{go:Option Addr}{x y:Int}(hz:kI.In W.1.size W go ([x,y]:List Int))(hgq:∀a,go=some a→q<a.block):Num2 q W go x y:=by
 obtain⟨nb,noff,rfl,hnb,hnc⟩:=Zn hz (k:=0) (by simp);exact⟨nb,noff,rfl,hnb,hgq _ rfl,hnc 0 (by simp),hnc 1 (by simp)⟩
theorem num1_of{q:Nat}{W:World}{go:Option Addr}{x:Int}(hz:kI.In W.1.size W go ([x]:List Int))(hgq:∀a,go=some a→q<a.block):Num1 q W go x:=by
 obtain⟨nb,noff,rfl,hnb,hnc⟩:=Zn hz (k:=0) (by simp);exact⟨nb,noff,rfl,hnb,hgq _ rfl,hnc 0 (by simp)⟩
theorem moveS_all(q:Nat)(W:World)(o:Option Addr)(c:Nat)(us:List LNode)(hi lo p bb:Nat)(xs:List Value)(ev fv uv:Value)(st:SS)(h:QR q W o c us hi lo p bb xs ev fv uv st.s st.n)(hg:us.map Zz=st.gs)(k:Nat)(hk:k<6)(go:Option Addr)(gc:Nat)(l:List Int)(hl:l.length=Uy k)(hz:kI.In W.1.size W go l)(hgq:∀a,go=some a→q<a.block) :
  Calls prog 111 #[.pointer (some ⟨q,0,none⟩),.int .i64 ((k:Int)+1),.slice go l.length gc] W (Dl q W o c us hi lo p (Jh st ((k:Int)+1) l).2 (Jh st ((k:Int)+1) l).1.s (Jh st ((k:Int)+1) l).1.n):=by
 rw[Cb st hk,Tw];dsimp only
 by_cases h3:st.n=300
 ·have hm:Yk st.gs st.s st.n (mvR ((k:Int)+1) l)=(Nz,st.s,st.n):=by unfold Yk;rw[if_pos h3]
  rw[hm];have hbx:=h.box;rw[h3]at hbx;refine(moveS_full q W _ _ _ _ ((k:Int)+1) go l.length gc hbx).mono ?_;rintro e W' ⟨rfl,rfl⟩;exact⟨rfl,bb,xs,ev,fv,uv,h,Below.refl _ _⟩
 ·have hm:∀m,Yk st.gs st.s st.n m=(movT (doR (us.map Zz) (Kd (us.map Zz) us.length) st.s m.1 m.2.1 m.2.2).1,(doR (us.map Zz) (Kd (us.map Zz) us.length) st.s m.1 m.2.1 m.2.2).2,st.n+1):=fun m=>by
   unfold Yk
   rw[if_neg h3,←hg,Zb]
  rw[hm]
  rcases(show k=0∨k=1∨k=2∨k=3∨k=4∨k=5 from by omega)with rfl|rfl|rfl|rfl|rfl|rfl
  ·match l,hl with
   | [x,y],_=>exact Yj q W o c us hi lo p bb xs ev fv uv st.s st.n h go 2 gc 1 x y (by omega) h3 (.inl ⟨rfl,rfl,num2_of hz hgq⟩)
  ·match l,hl with
   | [x],_=>exact Yj q W o c us hi lo p bb xs ev fv uv st.s st.n h go 1 gc 2 x 0 (by omega) h3 (.inr (.inl ⟨rfl,rfl,rfl,rfl,num1_of hz hgq⟩))
  ·match l,hl with
   | [x],_=>exact Yj q W o c us hi lo p bb xs ev fv uv st.s st.n h go 1 gc 3 x 0 (by omega) h3 (.inr (.inr (.inl ⟨rfl,rfl,rfl,rfl,rfl,num1_of hz hgq⟩)))
  ·match l,hl with
   | [x],_=>exact Yj q W o c us hi lo p bb xs ev fv uv st.s st.n h go 1 gc 4 0 x (by omega) h3 (.inr (.inr (.inr (.inl ⟨rfl,rfl,rfl,rfl,rfl,rfl,num1_of hz hgq⟩))))
  ·match l,hl with
   | [],_=>exact Yj q W o c us hi lo p bb xs ev fv uv st.s st.n h go 0 gc 5 0 0 (by omega) h3 (.inr (.inr (.inr (.inr ⟨rfl,rfl,rfl,rfl,rfl,rfl⟩))))
  ·match l,hl with
   | [],_=>exact Yj q W o c us hi lo p bb xs ev fv uv st.s st.n h go 0 gc 6 0 0 (by omega) h3 (.inr (.inr (.inr (.inr ⟨rfl,rfl,rfl,rfl,rfl,rfl⟩))))
theorem tells_all(q:Nat)(W:World)(o:Option Addr)(c:Nat)(us:List LNode)(hi lo p bb:Nat)(xs:List Value)(ev fv uv:Value)(st:SS)(h:QR q W o c us hi lo p bb xs ev fv uv st.s st.n)(hg:us.map Zz=st.gs)(hR:RgI st.s)(k:Nat)(hk:k<11)(hk6:¬k<6)(go:Option Addr)(gc:Nat)(l:List Int)(hl:l.length=Uy k)(hz:kI.In W.1.size W go l) :
  Calls prog 112 #[.pointer (some ⟨q,0,none⟩),.string (Vz k),.slice go l.length gc] W (Dl q W o c us hi lo p (Jh st ((k:Int)+1) l).2 (Jh st ((k:Int)+1) l).1.s (Jh st ((k:Int)+1) l).1.n):=by
 rcases(show k=6∨k=7∨k=8∨k=9∨k=10 from by omega)with rfl|rfl|rfl|rfl|rfl
 ·have h1:=tells_run q W o c us hi lo p bb xs ev fv uv st.s st.n h go l.length gc;rw[hg]at h1;exact h1
 ·exact tells_rep q W o c us hi lo p bb xs ev fv uv st.s st.n h go l.length gc
 ·exact tells_out q W o c us hi lo p bb xs ev fv uv st.s st.n h go l.length gc hR
 ·exact tells_lost q W o c us hi lo p bb xs ev fv uv st.s st.n h go l.length gc hR
 ·match l,hl with
  | [x,y],_ =>
   have h1:=tells_mean q W o c us hi lo p bb xs ev fv uv st.s st.n h go gc x y hz;rw[hg]at h1;exact h1
theorem ScQ.of(q:Nat)(W W':World)(o:Option Addr)(c:Nat)(us:List LNode)(hi lo p:Nat)(st:SS)(hb:st.bg=true)(h0:st.bad=0)(hg:us.map Zz=st.gs)(hI:SSI st)(k:Int)(l:List Int){e:Ending}(h:Dl q W o c us hi lo p (Jh st k l).2 (Jh st k l).1.s (Jh st k l).1.n e W') :
  e=.returned (.string (Jh st k l).2)∧ScQ q W' (Jh st k l).1∧Below q W W':=by
 obtain⟨he,bb,xs,ev,fv,uv,hQ,hl⟩:=h;obtain⟨r1,r2,r3⟩:=Tz st k l;exact⟨he,.inr (.inr ⟨r2.trans hb,r3.trans h0,o,c,us,hi,lo,p,bb,xs,ev,fv,uv,hQ,by rw[r1];exact hg,((hI.obey hb h0 k l).run (r2.trans hb) (r3.trans h0)).2.2.2⟩),hl⟩
noncomputable def Wg(st:SS)(ws:List ByteArray):SS×ByteArray:=if st.bad≠0 then(st,refT st.bad)else runA st ws
def AnsRest(q:Nat)(W:World)(R:SS×ByteArray)(e:Ending)(W':World):Prop:=e=.returned (.string R.2)∧ScQ q W' R.1∧Below q W W'
theorem runA_no{st:SS}{ws:List ByteArray}(h:Dr ws=(0,[],false)):runA st ws=(st,Nz):=by unfold runA;rw[h]
theorem node_no:∀j:Nat,j<11→Xv≠Vz j:=by
 intro j hj e;have h:∀j:Fin 11,Xv.data.toList≠(Vz j).data.toList:=by decide
 exact h ⟨j,hj⟩ (by rw[e])
theorem lineS_node(q:Nat)(W:World)(st:SS)(line:ByteArray)(ws:List ByteArray)(hws:ws=Zw line 32)(hq:q<W.1.size)(HBG:Zi (∀w0,Below W.1.size W w0→Calls prog 108 #[.pointer (some ⟨q,0,none⟩)] w0 fun e W'=>(∃v,e=.returned v)∧SStep q (OB q) (OB q) w0 W'∧ScQ q W' st))(hbg:st.bg=true)(hI0:SSI st)(hs:line.size≤3000)(hn0:el ws 0=Xv)(hb2:Zi (∀w0,Below W.1.size W w0→w0.cell? ⟨q,2,none⟩=some (.bool true))) :
  Calls prog 86 #[.pointer (some ⟨q,0,none⟩),.string line] W (AnsRest q W (Wg st ws)):=by
 have HCR:Zi (st.bad=0→Wg st ws=(st,Nz)):=fun h=>by rw[Wg,if_neg (by rw[h];decide),runA_no (cmdR_word fun j hj=>by rw[hn0];exact node_no j hj)]
 have HP:Zi (Calls prog 85 #[.string line,.int .u8 32] W (AnsS W ws)):=by rw[Zi,hws];exact Kt line 32 W (by omega)
 have HSh:Zi (Na ws):=by rw[Zi,hws];exact Qy 32 (by omega)
 have hL:ws.length≤line.size+1:=by rw[hws];exact Qp line 32
 have hpos:0<ws.length:=by rw[hws];exact Jc line 32
 have HQ:=Zd (Nat.le_of_lt hq);have HQS:=Zd hq;clear hws;go_enter func86,ntmps86;go_wp2_with fail;refine HP.o.mono ?_;rintro e w0 ⟨⟨go,qc,rfl,hno,hF⟩,hb0⟩;obtain⟨g,rfl,hg1,hg2,hg3,_⟩:=hF.at hpos;have hcap:=hF.cap;have hI:=Zd hF.in;have d0:=Je hI.o 0 hpos;have HB0:=Zd (hb0.mono HQ.o);obtain⟨x,hx⟩:=nmd (el ws 0);rw[←hx]at d0;have hgz:g<w0.1.size:=by omega
 have hpi:(0:Int)<(ws.length:Int):=by omega
 have HHB:=Zd hb0.size;have HBB:=Zd hb0;have hgq:q<g:=by omega
 have HTI:=Zd hI.o;clear hF hno hb0 hg2 hg3 HP hI hq;have hxn:x=Xv:=by rw[hx];exact hn0
 have f0:(x.toList==[110,111,100,101])=true:=by rw[hxn,show Xv.toList=[110,111,100,101]from by rw[Xv,Lib.toList_data]];rfl
 have b2:=hb2.o w0 HBB.o;have HFM:=Zd (Cs x);rw[hxn,Td node_no,←hxn]at HFM;have qz:q<w0.1.size:=Nat.lt_of_lt_of_le HQS.o HHB.o;clear hx hn0 hxn;go_wp2_with fail;refine(HBG.o w0 HBB.o).mono ?_;rintro e w1 ⟨⟨bv,rfl⟩,hS1,hSC⟩;have e0:w1.cell? ⟨g,0,none⟩=some (.string x):=(World.cell?_of_block (a:=⟨g,0,none⟩) (hS1.block g hgz (by show¬g=q;omega))).trans d0;have hg1z:g<w1.1.size:=Nat.lt_of_lt_of_le hgz hS1.low.size;have HS1:=Zd hS1;have HSC:=Zd hSC;clear d0 b2 f0 hgz qz hS1 HBG hb2
 rcases hSC with⟨hf,_⟩|⟨_,hbad,o,c,us,hi,hQ,hg⟩|⟨_,hbad,o,c,us,hi,lo,p,bb,xs,ev,fv,uv,hQ,hg,hR⟩
 ·rw[hbg]at hf;cases hf
 ·
  have c3:=hQ.box.c 3 rfl;have cz:=hQ.box.size;have hd:(st.bad != 0)=true:=by simpa using hbad
  have HR:Zi (Wg st ws=(st,refT st.bad)):=by rw[Zi,Wg,if_pos hbad]
  have hb0:=hI0.bad0;have hb1:=hI0.bad1;have HQ1:=Zd hQ;have HG1:=Zd hg;obtain⟨bad,hbd⟩:=nmd (st.bad);rw[←hbd]at c3 hd HR hb0 hb1 hbad;have HBD:=Zd hbd;have HNB:=Zd hbad;clear hbd hQ hg hbad;go_wp2_with fail;refine(Jf bad (by omega) (by omega) w1).mono ?_;rintro e w4 ⟨rfl,hb4⟩;obtain⟨y,hy⟩:=nmd (tx (Lib.itoa bad));have hys:y.size≤100:=by rw[hy];exact Ku bad (by omega) (by omega)
  have hy6:¬9223372036854775807<6+y.size:=by omega
  have HY:=Zd hy;rw[←hy];have HB4:=Zd hb4;clear hy hb4 c3;go_wp2;refine bodyPost_ret (v:=.string (⟨#[103,114,97,112,104,32]⟩++y)) (by simp[results,results86,go_sem]) rfl ?_;rw[HR.o];refine⟨by rw[refT,←HY.o];rfl,.inr (.inl ⟨hbg,by rw[←HBD.o];exact HNB.o,o,c,us,hi,HQ1.o.later HB4.o,HG1.o⟩),?_⟩;exact(HB0.o.trans HS1.o.low).trans (HB4.o.mono (Nat.le_of_lt HQ1.o.box.size))
 ·have c3:=hQ.box.c 3 rfl;have cz:=hQ.box.size;have HRW:=Zd (HCR.o hbad);clear hQ hg hR HCR hbad;go_wp2_with fail;refine(HFM.o w1).mono ?_;rintro e w2 ⟨rfl,hw⟩;rw[hw];clear hw w2
  go_wp2;refine bodyPost_ret (v:=.string ⟨#[119,104,97,116]⟩) (by simp[results,results86,go_sem]) rfl ?_;rw[HRW.o];exact⟨rfl,HSC.o,HB0.o.trans HS1.o.low⟩
theorem lineS_rest(q:Nat)(W:World)(st:SS)(line:ByteArray)(ws:List ByteArray)(hws:ws=Zw line 32)(hq:q<W.1.size)(HBG:Zi (∀w0,Below W.1.size W w0→Calls prog 108 #[.pointer (some ⟨q,0,none⟩)] w0 fun e W'=>(∃v,e=.returned v)∧SStep q (OB q) (OB q) w0 W'∧ScQ q W' st))(hbg:st.bg=true)(hI0:SSI st)(hs:line.size≤3000)(hn0:el ws 0≠Xv) :
  Calls prog 86 #[.pointer (some ⟨q,0,none⟩),.string line] W (AnsRest q W (Wg st ws)):=by
 have HP:Zi (Calls prog 85 #[.string line,.int .u8 32] W (AnsS W ws)):=by rw[Zi,hws];exact Kt line 32 W (by omega)
 have HSh:Zi (Na ws):=by rw[Zi,hws];exact Qy 32 (by omega)
 have hL:ws.length≤line.size+1:=by rw[hws];exact Qp line 32
 have hpos:0<ws.length:=by rw[hws];exact Jc line 32
 have HQ:=Zd (Nat.le_of_lt hq);have HQS:=Zd hq;clear hws;go_enter func86,ntmps86;go_wp2_with fail;refine HP.o.mono ?_;rintro e w0 ⟨⟨go,qc,rfl,hno,hF⟩,hb0⟩;obtain⟨g,rfl,hg1,hg2,hg3,_⟩:=hF.at hpos;have hcap:=hF.cap;have hI:=Zd hF.in;have d0:=Je hI.o 0 hpos;have HB0:=Zd (hb0.mono HQ.o);obtain⟨x,hx⟩:=nmd (el ws 0);rw[←hx]at d0;have hgz:g<w0.1.size:=by omega
 have hpi:(0:Int)<(ws.length:Int):=by omega
 have HHB:=Zd hb0.size;have HBB:=Zd hb0;have hgq:q<g:=by omega
 have HTI:=Zd hI.o;clear hF hno hb0 hg2 hg3 HP hI hq;have HXW0:=Zd hx;have f0:(x.toList==[110,111,100,101])=false:=by
  rw[beq_eq_false_iff_ne];intro he
  apply hn0
  rw[←hx]
  apply Ze
  rw[he,Xv,Lib.toList_data]
 have HFM:=Zd (Cs x);clear hx hn0;go_wp2_with fail;refine(HBG.o w0 HBB.o).mono ?_;rintro e w1 ⟨⟨bv,rfl⟩,hS1,hSC⟩;have e0:w1.cell? ⟨g,0,none⟩=some (.string x):=(World.cell?_of_block (a:=⟨g,0,none⟩) (hS1.block g hgz (by show¬g=q;omega))).trans d0;have hg1z:g<w1.1.size:=Nat.lt_of_lt_of_le hgz hS1.low.size;have HTX:Zi (∀j,j<ws.length→w1.cell? ⟨g,j,none⟩=some (.string (el ws j))):=fun j hj=>(World.cell?_of_block (a:=⟨g,j,none⟩) (hS1.block g hgz (by show¬g=q;omega))).trans (Je HTI.o j hj)
 have HS1:=Zd hS1;have HSC:=Zd hSC;clear d0 f0 hgz hS1 HBG
 rcases hSC with⟨hf,_⟩|⟨_,hbad,o,c,us,hi,hQ,hg⟩|⟨_,hbad,o,c,us,hi,lo,p,bb,xs,ev,fv,uv,hQ,hg,hR⟩
 ·rw[hbg]at hf;cases hf
 ·
  have c3:=hQ.box.c 3 rfl;have cz:=hQ.box.size;have hd:(st.bad != 0)=true:=by simpa using hbad
  have HR:Zi (Wg st ws=(st,refT st.bad)):=by rw[Zi,Wg,if_pos hbad]
  have hb0:=hI0.bad0;have hb1:=hI0.bad1;have HQ1:=Zd hQ;have HG1:=Zd hg;obtain⟨bad,hbd⟩:=nmd (st.bad);rw[←hbd]at c3 hd HR hb0 hb1 hbad;have HBD:=Zd hbd;have HNB:=Zd hbad;clear hbd hQ hg hbad;go_wp2_with fail;refine(Jf bad (by omega) (by omega) w1).mono ?_;rintro e w4 ⟨rfl,hb4⟩;obtain⟨y,hy⟩:=nmd (tx (Lib.itoa bad));have hys:y.size≤100:=by rw[hy];exact Ku bad (by omega) (by omega)
  have hy6:¬9223372036854775807<6+y.size:=by omega
  have HY:=Zd hy;rw[←hy];have HB4:=Zd hb4;clear hy hb4 c3;go_wp2;refine bodyPost_ret (v:=.string (⟨#[103,114,97,112,104,32]⟩++y)) (by simp[results,results86,go_sem]) rfl ?_;rw[HR.o];refine⟨by rw[refT,←HY.o];rfl,.inr (.inl ⟨hbg,by rw[←HBD.o];exact HNB.o,o,c,us,hi,HQ1.o.later HB4.o,HG1.o⟩),?_⟩;exact(HB0.o.trans HS1.o.low).trans (HB4.o.mono (Nat.le_of_lt HQ1.o.box.size))
 ·have c3:=hQ.box.c 3 rfl;have cz:=hQ.box.size;have HQ1:=Zd hQ;have HG1:=Zd hg;have HR1:=Zd hR;clear hQ hg hR
  by_cases hkx:∃k,k<11∧x=Vz k
  case neg =>
   have hkn:∀j,j<11→x≠Vz j:=fun j hj e=>hkx ⟨j,hj,e⟩
   rw[Td hkn]at HFM;have HRW:Zi (Wg st ws=(st,Nz)):=by rw[Zi,Wg,if_neg (by rw[hbad];decide),runA_no (cmdR_word fun j hj=>by rw[←HXW0.o];exact hkn j hj)]
   clear hkx hkn;go_wp2_with fail;refine(HFM.o w1).mono ?_;rintro e w2 ⟨rfl,hw⟩;rw[hw];clear hw w2
   go_wp2;refine bodyPost_ret (v:=.string ⟨#[119,104,97,116]⟩) (by simp[results,results86,go_sem]) rfl ?_;rw[HRW.o];exact⟨rfl,HSC.o,HB0.o.trans HS1.o.low⟩
  obtain⟨k,hk,hxk⟩:=hkx;have HXX:=Zd hxk;have HXW:Zi (el ws 0=Vz k):=by rw[Zi,←HXW0.o];exact hxk
  rw[show formR x=((Uy k:Int),if k<6 then(k:Int)+1 else 0,true)from by rw[hxk];exact formR_is hk]at HFM;obtain⟨kd,hkd⟩:∃d:Int,d=if k<6 then(k:Int)+1 else 0:=⟨_,rfl⟩
  rw[←hkd]at HFM;have HKD:Zi ((k<6→kd=(k:Int)+1)∧(¬k<6→kd=0)):=⟨fun h=>by rw[hkd,if_pos h],fun h=>by rw[hkd,if_neg h]⟩;have hnk:=cmdN_le k;obtain⟨nn,hnn⟩:=nmd (Uy k);rw[←hnn]at HFM hnk;have HNN:=Zd hnn;have hwr:IntKind.i64.wrap (1+(nn:Int))=1+(nn:Int):=by rw[IntKind.wrap_i64] <;> omega
  clear hkd hxk hnn
  by_cases hwl0:ws.length=1+nn
  case neg =>
   have hd:((ws.length:Int) != 1+(nn:Int))=true:=by simp;omega
   have HRW:Zi (Wg st ws=(st,Nz)):=by rw[Zi,Wg,if_neg (by rw[hbad];decide),runA_no (cmdR_many hk HXW.o (by rw[←HNN.o];exact hwl0) hpos)]
   clear hwl0;go_wp2_with fail;refine(HFM.o w1).mono ?_;rintro e w2 ⟨rfl,hw⟩;rw[hw];clear hw w2
   go_wp2;refine bodyPost_ret (v:=.string ⟨#[119,104,97,116]⟩) (by simp[results,results86,go_sem]) rfl ?_;rw[HRW.o];exact⟨rfl,HSC.o,HB0.o.trans HS1.o.low⟩
  have hd:((ws.length:Int) != 1+(nn:Int))=false:=by simp;omega
  have HWL:Zi (ws.length=1+Uy k):=by rw[Zi,←HNN.o];exact hwl0
  have HWL0:=Zd hwl0;have HSh2:=Zd HSh.o;clear hwl0
  by_cases hq1:qc=1
  ·obtain rfl:=hq1;have HN1:Zi (Ji (ws.drop 1)=some []):=by
    have:ws.drop 1=[]:=List.length_eq_zero_iff.1 (by rw[List.length_drop];omega);rw[Zi,this];rfl
   have hz1:¬0<ws.length-1:=by omega
   have hz2:decide ((0:Int)<((ws.length-1:Nat):Int))=false:=by simp;omega
   go_wp2_with fail;refine(HFM.o w1).mono ?_;rintro e w2 ⟨rfl,hw⟩;rw[hw];clear hw w2
   clear c3;go_wp2;clear hd hwr
   go_loopw [11,87] (fun u i wr=>∃(v:Value)(acc:List Int),v=u∧i=.int .i64 0∧Zi (kI.Own w1.1.size wr v acc)∧Zi (Ji (ws.drop 1)=some acc)∧Zi (Below w1.1.size w1 wr)) (fun _ _ _=>0)
   case atStart=>exact⟨_,[],rfl,rfl,Kind.Own.nil _ _ _,HN1.o,Below.refl _ _⟩
   case round =>
    obtain⟨v,acc,rfl,rfl,hO,hN,hB⟩:=hrel;obtain⟨qo,qc2,rfl,_,hF9⟩:=hO.o.in;have hgq9:∀a,qo=some a→q<a.block:=fun a ha=>by
     subst ha;have:=(Zj hO.o (b:=a.block) (by simp[Value.ownBlock])).1;have:=HQ1.o.box.size
     omega
    have HRR:Zi (Wg st ws=Jh st ((k:Int)+1) acc):=by rw[Zi,Wg,if_neg (by rw[hbad];decide),runA,cmdR_yes hk HXW.o HWL.o hN.o]
    have hla:acc.length=Uy k:=by have:=Vb hN.o;have h9:=HWL.o;rw[List.length_drop]at this;omega
    have hQr:=HQ1.o.later hB.o;have HMV:=Zd (fun(h6:k<6)=>moveS_all q wr o c us hi lo p bb xs ev fv uv st hQr HG1.o k h6 qo qc2 acc hla hF9 hgq9);have HTL:=Zd (fun(h6:¬k<6)=>tells_all q wr o c us hi lo p bb xs ev fv uv st hQr HG1.o HR1.o k hk h6 qo qc2 acc hla hF9);have HOF:=Zd (fun(W':World) (e:Ending) (hA:Dl q wr o c us hi lo p (Jh st ((k:Int)+1) acc).2 (Jh st ((k:Int)+1) acc).1.s (Jh st ((k:Int)+1) acc).1.n e W')=>ScQ.of q wr W' o c us hi lo p st hbg hbad HG1.o hI0 ((k:Int)+1) acc hA);have d9:=(hB.o.cell (p:=⟨g,0,none⟩) (by dsimp only;omega)).trans e0;have hgr:g<wr.1.size:=Nat.lt_of_lt_of_le hg1z hB.o.size;have HBR:=Zd (Below.trans (HB0.o.trans HS1.o.low) (hB.o.mono (Nat.le_of_lt HQ1.o.box.size)));obtain⟨A,hA⟩:=nmd (Jh st ((k:Int)+1) acc);rw[←hA]at HRR HOF HMV HTL;obtain⟨st2,T⟩:=A;dsimp only at HRR HOF HMV HTL;have HLA:=Zd hla;clear hA hF9 hgq9 hO hN hQr hla hB
    by_cases h6:k<6
    ·have hkd:kd=(k:Int)+1:=HKD.o.1 h6;have hgt:decide ((0:Int)<kd)=true:=by simp;omega
     have HM:=Zd (HMV.o h6);rw[←hkd]at HM;clear HMV HTL hkd h6;go_wp2_with fail;refine HM.o.mono ?_;intro e w9 hA;obtain⟨rfl,hS,hl⟩:=HOF.o w9 e hA;have HS9:=Zd hS;have HL9:=Zd hl;clear hA hS hl HM HOF;go_wp2;refine bodyPost_ret (v:=.string T) (by simp[results,results86,go_sem]) rfl ?_;rw[HRR.o];exact⟨rfl,HS9.o,HBR.o.trans HL9.o⟩
    ·have hkd:kd=0:=HKD.o.2 h6;have hgt:decide ((0:Int)<kd)=false:=by simp;omega
     have HM:=Zd (HTL.o h6);rw[←HXX.o]at HM;clear HMV HTL hkd h6;go_wp2_with fail;refine HM.o.mono ?_;intro e w9 hA;obtain⟨rfl,hS,hl⟩:=HOF.o w9 e hA;have HS9:=Zd hS;have HL9:=Zd hl;clear hA hS hl HM HOF;go_wp2;refine bodyPost_ret (v:=.string T) (by simp[results,results86,go_sem]) rfl ?_;rw[HRR.o];exact⟨rfl,HS9.o,HBR.o.trans HL9.o⟩
  ·go_wp2_with fail;refine(HFM.o w1).mono ?_;rintro e w2 ⟨rfl,hw⟩;rw[hw];clear hw w2
   clear c3;go_wp2;clear hd hwr
   go_loopw [11,87] (fun u i wr=>∃(m:Nat)(v:Value)(acc:List Int),v=u∧m≤ws.length-1∧acc.length≤m∧i=.int .i64 (m:Int)∧Zi (kI.Own w1.1.size wr v acc)∧Zi (Ji ((ws.drop 1).take m)=some acc)∧Zi (Below w1.1.size w1 wr)) (fun _ i _=>ws.length-1-(intOf i).toNat)
   case atStart=>exact⟨0,_,[],rfl,Nat.zero_le _,Nat.le_refl _,rfl,Kind.Own.nil _ _ _,rfl,Below.refl _ _⟩
   case round =>
    obtain⟨m,v,acc,rfl,hm,hal,rfl,hO,hN,hB⟩:=hrel
    by_cases hlt:m<ws.length-1
    ·have d1:=(hB.o.cell (p:=⟨g,1+m,none⟩) (by dsimp only;omega)).trans (HTX.o (1+m) (by omega));have hgr:g<wr.1.size:=Nat.lt_of_lt_of_le hg1z hB.o.size;have hdl:m<(ws.drop 1).length:=by rw[List.length_drop];omega
     have hel:el (ws.drop 1) m=el ws (1+m):=by simp[el,Nat.add_comm]
     have hnum:=Vd (el ws (1+m)) wr (HSh2.o _ (Zh (by omega)));have hmem:=Zh hdl;have htk:=Zy hdl;rw[hel]at hmem htk
     cases hn:Wl (el ws (1+m)).data.toList with
     |none =>
      have HRW:Zi (Wg st ws=(st,Nz)):=by rw[Zi,Wg,if_neg (by rw[hbad];decide),runA_no (cmdR_nums (Vr hmem hn))]
      rw[Xr hn]at hnum;dsimp only at hnum;have HM:=Zd hnum
      generalize el ws (1+m)=y at d1 HM
      have HBr:=Zd hB.o;clear hnum hmem htk hn hO hN hel hdl hB;go_wp2_with fail;refine HM.o.mono ?_;rintro e w3 ⟨rfl,hw⟩;rw[hw];clear hw w3
      go_wp2;refine bodyPost_ret (v:=.string ⟨#[119,104,97,116]⟩) (by simp[results,results86,go_sem]) rfl ?_;rw[HRW.o];exact⟨rfl,HSC.o.later HBr.o,(HB0.o.trans HS1.o.low).trans (HBr.o.mono (Nat.le_of_lt HQ1.o.box.size))⟩
     |some n =>
      have HN2:Zi (Ji ((ws.drop 1).take (m+1))=some (acc++[n])):=by rw[Zi,htk];exact Gh _ _ _ _ hN.o hn
      rw[Vj hn]at hnum;dsimp only at hnum;have HM:=Zd hnum
      generalize el ws (1+m)=y at d1 HM
      clear hnum hmem htk hn hN hel hdl;go_wp2_with fail;refine HM.o.mono ?_;rintro e w3 ⟨rfl,hw⟩;rw[hw];clear hw w3
      have HA:Zi (kI.Own w1.1.size (wr.alloc (.cells #[.int .i64 n] 3)) v acc):=hO.o.below (Zk _ _);have HNN9:Zi (kI.In (wr.1.size+1) (wr.alloc (.cells #[.int .i64 n] 3)) (some ⟨wr.1.size,0,none⟩) [n]):=Kb (by omega) (by simp);have HBa:Zi (Below w1.1.size w1 (wr.alloc (.cells #[.int .i64 n] 3))):=Zx hB.o _;have hll:acc.length+1≤4194304:=by omega
      have hs1:=hB.o.size;clear hO HM hB d1;go_wp2_with (at_builtin;refine Kind.app Xu (wr.alloc (.cells #[.int .i64 n] 3)) rfl (.tmp 98) (.tmp 100) rfl w1.1.size v acc rfl HA.o (by simp;omega) (some ⟨wr.1.size,0,none⟩) [n] 1 1 rfl rfl (by simp) _ HNN9.o hll ?_;intro v' w' hO' hB' hG' hn';have HB2:Zi (Below w1.1.size w1 w'):=HBa.o.trans (hB'.mono (by omega));have HO':Zi (kI.Own w1.1.size w' v' (acc++[n])):=hO';clear hO' hB' hG' hn');go_roundw
      case rel=>exact⟨m+1,v',acc++[n],rfl,by omega,by simp;omega,by go_num,HO',HN2,HB2⟩
      case measure=>simp[intOf];omega
    ·obtain rfl:m=ws.length-1:=by omega
     rw[List.take_of_length_le (by rw[List.length_drop];omega)]at hN;obtain⟨qo,qc2,rfl,_,hF9⟩:=hO.o.in;have hgq9:∀a,qo=some a→q<a.block:=fun a ha=>by
      subst ha;have:=(Zj hO.o (b:=a.block) (by simp[Value.ownBlock])).1;have:=HQ1.o.box.size
      omega
     have HRR:Zi (Wg st ws=Jh st ((k:Int)+1) acc):=by rw[Zi,Wg,if_neg (by rw[hbad];decide),runA,cmdR_yes hk HXW.o HWL.o hN.o]
     have hla:acc.length=Uy k:=by have:=Vb hN.o;have h9:=HWL.o;rw[List.length_drop]at this;omega
     have hQr:=HQ1.o.later hB.o;have HMV:=Zd (fun(h6:k<6)=>moveS_all q wr o c us hi lo p bb xs ev fv uv st hQr HG1.o k h6 qo qc2 acc hla hF9 hgq9);have HTL:=Zd (fun(h6:¬k<6)=>tells_all q wr o c us hi lo p bb xs ev fv uv st hQr HG1.o HR1.o k hk h6 qo qc2 acc hla hF9);have HOF:=Zd (fun(W':World) (e:Ending) (hA:Dl q wr o c us hi lo p (Jh st ((k:Int)+1) acc).2 (Jh st ((k:Int)+1) acc).1.s (Jh st ((k:Int)+1) acc).1.n e W')=>ScQ.of q wr W' o c us hi lo p st hbg hbad HG1.o hI0 ((k:Int)+1) acc hA);have d9:=(hB.o.cell (p:=⟨g,0,none⟩) (by dsimp only;omega)).trans e0;have hgr:g<wr.1.size:=Nat.lt_of_lt_of_le hg1z hB.o.size;have HBR:=Zd (Below.trans (HB0.o.trans HS1.o.low) (hB.o.mono (Nat.le_of_lt HQ1.o.box.size)));obtain⟨A,hA⟩:=nmd (Jh st ((k:Int)+1) acc);rw[←hA]at HRR HOF HMV HTL;obtain⟨st2,T⟩:=A;dsimp only at HRR HOF HMV HTL;have HLA:=Zd hla;clear hA hF9 hgq9 hO hN hQr hla hB
     by_cases h6:k<6
     ·have hkd:kd=(k:Int)+1:=HKD.o.1 h6;have hgt:decide ((0:Int)<kd)=true:=by simp;omega
      have HM:=Zd (HMV.o h6);rw[←hkd]at HM;clear HMV HTL hkd h6;go_wp2_with fail;refine HM.o.mono ?_;intro e w9 hA;obtain⟨rfl,hS,hl⟩:=HOF.o w9 e hA;have HS9:=Zd hS;have HL9:=Zd hl;clear hA hS hl HM HOF;go_wp2;refine bodyPost_ret (v:=.string T) (by simp[results,results86,go_sem]) rfl ?_;rw[HRR.o];exact⟨rfl,HS9.o,HBR.o.trans HL9.o⟩
     ·have hkd:kd=0:=HKD.o.2 h6;have hgt:decide ((0:Int)<kd)=false:=by simp;omega
      have HM:=Zd (HTL.o h6);rw[←HXX.o]at HM;clear HMV HTL hkd h6;go_wp2_with fail;refine HM.o.mono ?_;intro e w9 hA;obtain⟨rfl,hS,hl⟩:=HOF.o w9 e hA;have HS9:=Zd hS;have HL9:=Zd hl;clear hA hS hl HM HOF;go_wp2;refine bodyPost_ret (v:=.string T) (by simp[results,results86,go_sem]) rfl ?_;rw[HRR.o];exact⟨rfl,HS9.o,HBR.o.trans HL9.o⟩
theorem restR_is(st:SS)(line:ByteArray)(h1:¬(st.bg=false∧el (Zw line 32) 0=Xv)):Lq st line=Wg (Ny st) (Zw line 32):=by
 unfold Wg
 by_cases h2:(Ny st).bad=0
 ·rw[if_neg (by rw[h2];decide),ansR_run st line h1 h2]
 ·rw[if_pos h2,ansR_bad st line h1 h2]
theorem lineS_any(q:Nat)(W:World)(st:SS)(line:ByteArray)(h:ScQ q W st)(hI:SSI st)(hs:line.size≤3000) :
  Calls prog 86 #[.pointer (some ⟨q,0,none⟩),.string line] W (AnsLq q W st line):=by
 have hqW:=h.size
 by_cases hadd:st.bg=false∧el (Zw line 32) 0=Xv
 ·rcases h with⟨hb,o,c,us,hi,hP,hg⟩|⟨hb,_⟩|⟨hb,_⟩
  ·refine(lineS_add q W o c us hi line _ rfl hP hs hadd.2).mono ?_;rintro e W' ⟨rfl,o',c',us',hi',P',hu,hl⟩;have hlen:us.length=st.gs.length:=by rw[←hg,Zb]
   have ha:Lq st line=addR st line:=by unfold Lq;rw[if_pos hadd]
   rw[AnsLq,ha]
   unfold addR
   rw[hlen]at hu ⊢
   split
   ·rename_i h1;rw[if_pos h1]at hu;exact⟨rfl,.inl ⟨hb,o',c',us',hi',P',by rw[hu,hg]⟩,hl⟩
   ·rename_i h1;rw[if_neg h1]at hu;exact⟨rfl,.inl ⟨hb,o',c',us',hi',P',by rw[hu,hg]⟩,hl⟩
  ·rw[hb]at hadd;cases hadd.1
  ·rw[hb]at hadd;cases hadd.1
 ·rw[show AnsLq q W st line=AnsRest q W (Wg (Ny st) (Zw line 32))from by funext e W';rw[AnsLq,AnsRest,restR_is st line hadd]];have hbg:(Ny st).bg=true:=by unfold Ny;split <;> simp_all
  have HBG:Zi (∀w0,Below W.1.size W w0→Calls prog 108 #[.pointer (some ⟨q,0,none⟩)] w0 fun e W'=>(∃v,e=.returned v)∧SStep q (OB q) (OB q) w0 W'∧ScQ q W' (Ny st)):=fun w0 hb0=>by
   rcases h with⟨hb,o,c,us,hi,hP,hg⟩|⟨hb,hbad,o,c,us,hi,hP,hg⟩|⟨hb,hbad,o,c,us,hi,lo,p,bb,xs,ev,fv,uv,hP,hg,hR⟩
   ·refine(beginS_any q w0 o c us hi (hP.later hb0)).mono ?_;rintro e W' ⟨hv,hS,hA⟩;have hbs:=begS_of hb hg;refine⟨hv,hS,?_⟩
    by_cases h0:Th (us.map Zz)=0
    ·rw[if_pos h0]at hA;obtain⟨lo,p,bb,xs,ev,fv,uv,hQ⟩:=hA;rw[hbs,h0];exact .inr (.inr ⟨rfl,rfl,o,c,us,hi,lo,p,bb,xs,ev,fv,uv,hQ,rfl,RgI.zero hQ.fit.1⟩)
    ·rw[if_neg h0]at hA;rw[hbs];exact .inr (.inl ⟨rfl,h0,o,c,us,hi,hA,rfl⟩)
   ·refine(Sh q w0 _ _ _ _ (hP.later hb0).box).mono ?_;rintro e W' ⟨hv,rfl⟩;rw[Tg hb];exact⟨hv,SStep.refl _ _ _,.inr (.inl ⟨hb,hbad,o,c,us,hi,hP.later hb0,hg⟩)⟩
   ·refine(Sh q w0 _ _ _ _ (hP.later hb0).box).mono ?_;rintro e W' ⟨hv,rfl⟩;rw[Tg hb];exact⟨hv,SStep.refl _ _ _,.inr (.inr ⟨hb,hbad,o,c,us,hi,lo,p,bb,xs,ev,fv,uv,hP.later hb0,hg,hR⟩)⟩
  by_cases hw:el (Zw line 32) 0=Xv
  ·have hb:st.bg=true:=by
    cases hc:st.bg with
    |true=>rfl
    |false=>exact absurd ⟨hc,hw⟩ hadd
   refine lineS_node q W (Ny st) line _ rfl hqW HBG hbg hI.beg hs hw fun w0 hb0=>?_
   rcases h with⟨hf,_⟩|⟨_,hbad,o,c,us,hi,hP,hg⟩|⟨_,hbad,o,c,us,hi,lo,p,bb,xs,ev,fv,uv,hP,hg,hR⟩
   ·rw[hb]at hf;cases hf
   ·exact(hP.later hb0).box.c 2 rfl
   ·exact(hP.later hb0).box.c 2 rfl
  ·exact lineS_rest q W (Ny st) line _ rfl hqW HBG hbg hI.beg hs hw
def AnsLR(W:World)(text:ByteArray)(e:Ending)(W':World):Prop :=
  (if(Qr text).2=true then∃q,W.1.size≤q∧e=.returned (.tuple #[.pointer (some ⟨q,0,none⟩),.string (tx (catL (Qd st0 (Qr text).1).2)),.bool true])∧ScQ q W' (Qd st0 (Qr text).1).1
   else∃q,e=.returned (.tuple #[.pointer (some ⟨q,0,none⟩),.string ⟨#[]⟩,.bool false]))∧Below W.1.size W W'
theorem linesR_yes{s:ByteArray}(h:s.size≤3000∧(Zw s 10).length≤201∧el (Zw s 10) ((Zw s 10).length-1)=⟨#[]⟩):Qr s=((Zw s 10).take ((Zw s 10).length-1),true):=if_pos h
theorem linesR_no{s:ByteArray}(h:¬(s.size≤3000∧(Zw s 10).length≤201∧el (Zw s 10) ((Zw s 10).length-1)=⟨#[]⟩)):Qr s=([],false):=if_neg h
theorem ScW.graph{q:Nat}{W:World}{st:SS}{O:Nat→Prop}(h:ScW q W st O):∃o c us hi,W.cell? ⟨q,0,none⟩=some (.slice o us.length c)∧us.map Zz=st.gs∧GR (q+1) hi W o c us∧hi≤W.1.size∧FitR us:=by
 rcases h with⟨_,o,c,us,hi,hP,hg,rfl⟩|⟨_,_,o,c,us,hi,hP,hg,rfl⟩|⟨_,_,o,c,us,hi,lo,p,bb,so,sc,xs,ev,fv,uv,hP,hg,_,rfl⟩
 ·exact⟨o,c,us,hi,hP.box.c 0 rfl,hg,hP.gr,hP.hi1,hP.fit⟩
 ·exact⟨o,c,us,hi,hP.box.c 0 rfl,hg,hP.gr,hP.hi1,hP.fit⟩
 ·exact⟨o,c,us,hi,hP.box.c 0 rfl,hg,hP.gr,Nat.le_trans hP.hi1 hP.flow.lo_le,hP.fit⟩
def AnsGT(W:World)(text:ByteArray)(e:Ending)(W':World):Prop :=
  (if(Qr text).2=true then∃o c us hi,e=.returned (.tuple #[.slice o us.length c,.bool true])∧us.map Zz=(Qd st0 (Qr text).1).1.gs∧GR W.1.size hi W' o c us∧hi≤W'.1.size∧FitR us
   else e=.returned (.tuple #[.slice none 0 0,.bool false]))∧Below W.1.size W W'
theorem Fs(n0:Nat)(text:ByteArray)(W:World)(ea:Nat→Addr)(hs:text.size≤1048576)(hV:Env n0 W ea)(hn:n0≤W.1.size) :
  Calls prog 17 #[.string text] W (AnsGT W text):=by
 have HP:=Zd (playScript_is n0 text W ea hs hV hn);clear hV;go_enter func17,ntmps17;go_wp2_with fail;refine HP.o.mono ?_;rintro e w1 ⟨hA,hb1⟩;have HB1:=Zd hb1;clear hb1 HP
 by_cases hg:(Qr text).2=true
 ·rw[if_pos hg]at hA;obtain⟨q,O,ao,c,hq,rfl,hSC,_⟩:=hA;obtain⟨o,gc,us,hi,c0,hu,hG,hh,hF⟩:=hSC.graph;have cz:=hSC.size;obtain⟨m,hm⟩:=nmd ((Qd st0 (Qr text).1).2.length);rw[←hm];have HG:=Zd hg;have HE:=Zd (show∃us':List LNode,us'.length=us.length∧us'=us from⟨us,rfl,rfl⟩);have HU:=Zd hu;have HGR:=Zd hG;have HF:=Zd hF;have HQ:=Zd hq;have HHI:=Zd hh;clear hg hm hSC hu hG hF HE hq hh;go_wp2;refine bodyPost_ret (v:=.tuple #[.slice o us.length gc,.bool true]) (by simp[results,results17,go_sem]) rfl ?_;refine⟨?_,HB1.o⟩;rw[if_pos HG.o];exact⟨o,gc,us,hi,rfl,HU.o,HGR.o.wide (Nat.le_trans HQ.o (Nat.le_succ _)) (Nat.le_refl _),HHI.o,HF.o⟩
 ·rw[if_neg hg]at hA;subst hA;have HG:=Zd hg;clear hg;go_wp2;refine bodyPost_ret (v:=.tuple #[.slice none 0 0,.bool false]) (by simp[results,results17,go_sem]) rfl ?_;refine⟨?_,HB1.o⟩;rw[if_neg HG.o]
end Go.Proofs.YtdacedbfnlkghaaGreatDoor