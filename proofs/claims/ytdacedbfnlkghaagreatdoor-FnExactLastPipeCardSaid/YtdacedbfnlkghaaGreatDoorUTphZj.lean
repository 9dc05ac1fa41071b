/- A node read: the program's. A token is taken out of a box. Steps of a flow, one behind the other; its rows grow. No conditions but those written. -/
import Derived.Test.YtdacedbfnlkghaaGreatDoorUTpfRy
import Derived.Shelf.Strconv.Clone
namespace Go.Proofs.YtdacedbfnlkghaaGreatDoor
set_option maxHeartbeats 8000000
set_option maxRecDepth 100000
open Go.RowKit Go.Proofs.Tryz
shelf_lay LaysM.n316 Nm 316 at Tryz as Tryz.laysClone
theorem clone_is(s:ByteArray)(w:World)(hs:s.size≤1048576) :
  Calls prog 38 #[.string s] w fun e w'=>e=.returned (.string s)∧Below w.1.size w w':=by
 have HC:=Zd (Any.stringslite_Clone Tryz.laysClone s w (by omega));go_enter func38,ntmps38;go_wp2_with fail;refine HC.o.mono ?_;rintro e w1 ⟨rfl,hb1⟩;go_wp2;go_ret;exact⟨rfl,hb1⟩
abbrev RNode:=(ByteArray×Int×Int×Int×Int×List Int)×Bool
def Wj:RNode:=((⟨#[]⟩,0,0,0,0,[]),false)
def Kf(s:ByteArray):RNode :=
 if(Zw s 32).length=5∧el (Zw s 32) 0=⟨#[110,111,100,101]⟩then
  (if(Jy (Zw (el (Zw s 32) 2) 58)).2=true∧(Tf (el (Zw s 32) 3)).2=true∧(Wo (el (Zw s 32) 4)).2=true∧
    hasT (el (Zw s 32) 1) (Jy (Zw (el (Zw s 32) 2) 58)).1.1 (Jy (Zw (el (Zw s 32) 2) 58)).1.2.1 (Jy (Zw (el (Zw s 32) 2) 58)).1.2.2 (Tf (el (Zw s 32) 3)).1 (Wo (el (Zw s 32) 4)).1=true then
   ((el (Zw s 32) 1,(Jy (Zw (el (Zw s 32) 2) 58)).1.1,(Jy (Zw (el (Zw s 32) 2) 58)).1.2.1,(Jy (Zw (el (Zw s 32) 2) 58)).1.2.2,(Tf (el (Zw s 32) 3)).1,(Wo (el (Zw s 32) 4)).1),true)
  else Wj)
 else Wj
def AnsRN(w:World)(R:RNode)(e:Ending)(w':World):Prop :=
 (∃go qc,e=.returned (.tuple #[.agg #[.string R.1.1,.int .i64 R.1.2.1,.int .i64 R.1.2.2.1,.int .i64 R.1.2.2.2.1,.int .i64 R.1.2.2.2.2.1,.slice go R.1.2.2.2.2.2.length qc],.bool R.2])∧(go=none→qc=0)∧kI.Fresh w.1.size w'.1.size w' go qc R.1.2.2.2.2.2)∧Below w.1.size w w'
theorem Jf{n:Nat}{W:World}{g:Nat}{ws:List ByteArray}(h:kS.In n W (some ⟨g,0,none⟩) ws)(i:Nat)(hi:i<ws.length):W.cell? ⟨g,i,none⟩=some (.string (el ws i)):=by
 obtain⟨b,off,e,_,hc⟩:=Ks h hi
 cases e
 have:=hc i hi
 rwa [Nat.zero_add]at this
theorem nextR_len(s:ByteArray):(Wo s).1.length≤s.size+1:=by
 unfold Wo
 split
 ·simp
 ·exact Nat.le_trans (numsQ_len _) (Qr _ _)
theorem Bz(s:ByteArray)(w:World)(hs:s.size≤1048576)(hT:PowTab w)(hE:NErr w)(hW:Wds w) :
  Calls prog 10 #[.string s] w fun e w'=>AnsRN w (Kf s) e w':=by
 have hB0:=Zk w (.cells #[.string ⟨#[]⟩,.int .i64 0,.int .i64 0,.int .i64 0,.int .i64 0,.slice none 0 0] 27);have X0:=Zd (Bx.new (w:=w) [.string ⟨#[]⟩,.int .i64 0,.int .i64 0,.int .i64 0,.int .i64 0,.slice none 0 0] 27 rfl);have HP:=Zd (Xj s 32 (w.alloc (.cells #[.string ⟨#[]⟩,.int .i64 0,.int .i64 0,.int .i64 0,.int .i64 0,.slice none 0 0] 27)) hs (by omega));have HSh:=Zd (Qc 32 hs);have HT:=Zd (hT.later hB0);have HE:=Zd (hE.later hB0);have HW:=Zd (hW.later hB0);obtain⟨R,hR⟩:=nmd (Kf s);rw[←hR]
 unfold Kf at hR
 have hL:=Qr s 32
 generalize Zw s 32=ws at HP HSh hR hL
 have HR:=Zd hR;clear hT hE hW hR;go_enter func10,ntmps10;go_wp2_with fail;refine HP.o.mono ?_;rintro e w1 ⟨⟨go,qc,rfl,hno,hF⟩,hb1⟩;have X1:=Zd (X0.o.later hb1);have hB1:=hB0.trans (hb1.mono hB0.size);have hs1:=X1.o.size
 by_cases h5:ws.length=5
 case neg =>
  have h5':((ws.length:Int) != 5)=true:=by simp;omega
  have HZ:Zi (R=Wj):=by rw[Zi,HR.o,if_neg (fun h=>h5 h.1)]
  clear hF hb1;obtain⟨x0,x1,x2,x3,x4,x5⟩:=X1.o.y6;have y0:=X1.o.f 0 rfl;have y1:=X1.o.f 1 rfl;have y2:=X1.o.f 2 rfl;have y3:=X1.o.f 3 rfl;have y4:=X1.o.f 4 rfl;have y5:=X1.o.f 5 rfl;go_wp2;refine bodyPost_ret (v:=.tuple #[.agg #[.string ⟨#[]⟩,.int .i64 0,.int .i64 0,.int .i64 0,.int .i64 0,.slice none 0 0],.bool false]) (by simp[results,results10,go_sem,x0,x1,x2,x3,x4,x5]) rfl ?_;rw[HZ.o];exact⟨⟨none,0,rfl,fun _=>rfl,.inl rfl⟩,((((((hB1|> bbs)|> bbs)|> bbs)|> bbs)|> bbs)|> bbs)⟩
 obtain⟨g,rfl,hg1,hg2,hg3,_⟩:=hF.at (by omega);have hcap:=hF.cap;have hI:=hF.in;have h5':((ws.length:Int) != 5)=false:=by simp;omega
 have c0:=Jf hI 0 (by omega);have c1:=Jf hI 1 (by omega);have c2:=Jf hI 2 (by omega);have c3:=Jf hI 3 (by omega);have c4:=Jf hI 4 (by omega);have HQ:=Zd (show(el ws 0).size≤1048576∧(el ws 1).size≤1048576∧(el ws 2).size≤1048576∧(el ws 3).size≤1048576∧(el ws 4).size≤1048576 from⟨HSh.o _ (Zl (by omega)),HSh.o _ (Zl (by omega)),HSh.o _ (Zl (by omega)),HSh.o _ (Zl (by omega)),HSh.o _ (Zl (by omega))⟩)
 generalize el ws 0=s0 at c0 HQ HR
 generalize el ws 1=s1 at c1 HQ HR
 generalize el ws 2=s2 at c2 HQ HR
 generalize el ws 3=s3 at c3 HQ HR
 generalize el ws 4=s4 at c4 HQ HR
 have HT1:=Zd (HT.o.later hb1);have HE1:=Zd (HE.o.later hb1);have HW1:=Zd (HW.o.later hb1);have h5n:(5:Int)=(ws.length:Int):=by omega
 have HWL:=Zd h5;obtain⟨n5,hn5⟩:=nmd (ws.length);clear hF hI hb1 HP X0 HT HE HW hB0 HSh hn5 n5 h5n
 by_cases hn:s0=⟨#[110,111,100,101]⟩
 case neg =>
  have HZ:Zi (R=Wj):=by rw[Zi,HR.o,if_neg (fun h=>hn h.2)]
  have hm1:s0.toList≠[110,111,100,101]:=fun e=>hn (Ze (by rw[e,Lib.toList_data]))
  have hm2:(s0.toList != [110,111,100,101])=true:=by simpa using hm1
  have hm3:(s0.toList==[110,111,100,101])=false:=by simpa using hm1
  clear hn;obtain⟨x0,x1,x2,x3,x4,x5⟩:=X1.o.y6;have y0:=X1.o.f 0 rfl;have y1:=X1.o.f 1 rfl;have y2:=X1.o.f 2 rfl;have y3:=X1.o.f 3 rfl;have y4:=X1.o.f 4 rfl;have y5:=X1.o.f 5 rfl;go_wp2;refine bodyPost_ret (v:=.tuple #[.agg #[.string ⟨#[]⟩,.int .i64 0,.int .i64 0,.int .i64 0,.int .i64 0,.slice none 0 0],.bool false]) (by simp[results,results10,go_sem,x0,x1,x2,x3,x4,x5]) rfl ?_;rw[HZ.o];exact⟨⟨none,0,rfl,fun _=>rfl,.inl rfl⟩,((((((hB1|> bbs)|> bbs)|> bbs)|> bbs)|> bbs)|> bbs)⟩
 subst hn;have HST:=Zd (readStage_is s2 w1 HQ.o.2.2.1 HT1.o HE1.o HW1.o);have HR2:Zi (R=if(Jy (Zw s2 58)).2=true∧(Tf s3).2=true∧(Wo s4).2=true∧hasT s1 (Jy (Zw s2 58)).1.1 (Jy (Zw s2 58)).1.2.1 (Jy (Zw s2 58)).1.2.2 (Tf s3).1 (Wo s4).1=true then((s1,(Jy (Zw s2 58)).1.1,(Jy (Zw s2 58)).1.2.1,(Jy (Zw s2 58)).1.2.2,(Tf s3).1,(Wo s4).1),true)else Wj):=by
  rw[Zi,HR.o,if_pos ⟨h5,rfl⟩]
 generalize Jy (Zw s2 58)=ST at HST HR2
 obtain⟨⟨kd,sa,sb⟩,y1⟩:=ST;have HNM:=fun W hT hE=>Pt s3 W HQ.o.2.2.2.1 hT hE
 generalize Tf s3=NM at HNM HR2
 obtain⟨cp,y2⟩:=NM;have HNX:=fun W hT hE=>readNext_is s4 W HQ.o.2.2.2.2 hT hE
 have hnl:=nextR_len s4
 generalize Wo s4=NX at HNX HR2 hnl
 obtain⟨nx,y3⟩:=NX;dsimp only at HR2 HST HNM HNX hnl;have HN1:=Zd HNM;have HN2:=Zd HNX;have hnx:nx.length≤1048577:=by have:=HQ.o.2.2.2.2;omega
 have h5l:5≤ws.length:=by omega
 clear HNM HNX h5 HR hnl;go_wp2_with fail;refine HST.o.mono ?_;rintro e w2 ⟨rfl,hb2⟩;have hB2:=hB1.trans (hb2.mono hB1.size);have X2:=X1.o.later hb2;have hs2:w1.1.size≤w2.1.size:=hb2.size;obtain⟨q,hq⟩:=nmd (w2.1.size);have hb2v:=Zk w2 (.cells #[.int .i64 kd,.int .i64 sa,.int .i64 sb] 24);have hb2w:Below w1.1.size w1 (w2.alloc (.cells #[.int .i64 kd,.int .i64 sa,.int .i64 sb] 24)):=Zx hb2 _;have Q3:=Zd (Bx.new (w:=w2) [.int .i64 kd,.int .i64 sa,.int .i64 sb] 24 rfl);have X3:=Zd (X2.later hb2v);have k3:=(hb2.cell (p:=⟨g,3,none⟩) hg3).trans c3;have hgw2:g<w2.1.size:=by omega
 have d1:=(hb2w.cell (p:=⟨g,1,none⟩) hg3).trans c1;have d3:=(hb2w.cell (p:=⟨g,3,none⟩) hg3).trans c3;have d4:=(hb2w.cell (p:=⟨g,4,none⟩) hg3).trans c4;have hB3:=hB1.trans (hb2w.mono hB1.size);have HC1:=Zd (HN1.o _ (HT1.o.later hb2w) (HE1.o.later hb2w));have HT3:=Zd (HT1.o.later hb2w);have HE3:=Zd (HE1.o.later hb2w);obtain⟨w3,hw3⟩:=nmd (w2.alloc (.cells #[.int .i64 kd,.int .i64 sa,.int .i64 sb] 24));rw[←hq]at Q3;rw[←hw3]at Q3 X3 d1 d3 d4 hB3 HC1 HT3 HE3;have hgq:g<q:=by omega
 have HW3:=Zd hw3;have HQ3:=Zd hq;clear hb2 hB2 X2 hb2v hb2w hw3 hq c1 c2 c3 c4 X1 hB1 HST HT1 HE1 HW1;go_wp2_with fail;rw[←HW3.o,←HQ3.o];clear k3;refine HC1.o.mono ?_;rintro e w4 ⟨rfl,hb4⟩;have hg4:g<w3.1.size:=Nat.lt_trans hgq Q3.o.size;have e1:=(hb4.cell (p:=⟨g,1,none⟩) hg4).trans d1;have e4:=(hb4.cell (p:=⟨g,4,none⟩) hg4).trans d4;have Q4:=Zd (Q3.o.later hb4);have X4:=Zd (X3.o.later hb4);have hB4:=hB3.trans (hb4.mono hB3.size);have HC2:=Zd (HN2.o _ (HT3.o.later hb4) (HE3.o.later hb4));clear hb4 d1 d3 d4 Q3 X3 HC1 hB3 HT3 HE3 HW3 HQ3;go_wp2_with fail;refine HC2.o.mono ?_;rintro e w5 ⟨⟨no,nc,rfl,hno5,hF5⟩,hb5⟩;dsimp only at hF5;have hg5:g<w4.1.size:=Nat.lt_trans hgq Q4.o.size;have f1:=(hb5.cell (p:=⟨g,1,none⟩) hg5).trans e1;have Q5:=Zd (Q4.o.later hb5);have X5:=Zd (X4.o.later hb5);have hB5:=hB4.trans (hb5.mono hB4.size);have HF5:=Zd (hF5.wide (lo':=w.1.size+1) X4.o.size (Nat.le_refl _));have HCL:=Zd (fun W=>clone_is s1 W HQ.o.2.1);clear hb5 e1 e4 Q4 X4 HC2 hF5 hB4;dsimp only;go_wp2;have h1l:(1:Int)<(ws.length:Int):=by omega
 refine Qq (zl:=[]) (S:=fun Y=>Y.cell? ⟨g,1,none⟩=some (.string s1)∧Y.cell? ⟨q,0,none⟩=some (.int .i64 kd)∧Y.cell? ⟨q,1,none⟩=some (.int .i64 sa)∧Y.cell? ⟨q,2,none⟩=some (.int .i64 sb)) (by kernel_rfl) ⟨f1,Q5.o.c 0 rfl,Q5.o.c 1 rfl,Q5.o.c 2 rfl⟩ (fun hH=>?_);refine Zq 0 hH ?_;refine Zq 1 hH ?_;refine Zq 2 hH ?_;refine Zq 4 hH ?_;refine Zq 5 hH ?_;refine Zq 6 hH ?_;refine Walks.pair (i:=3) (j:=8) (by kernel_rfl) rfl rfl (fun K hK=>?_) (fun K hK=>?_)
 case' _ =>
  go_simp;refine(HCL.o _).mono ?_;rintro e w6 ⟨rfl,hb60⟩;have hb6:Below w5.1.size w5 w6:=(Below.refl w5.1.size w5).drew.trans hb60;clear hb60;have hs6:=hb6.size;have f6:=(hb6.cell (p:=⟨g,1,none⟩) (by have:=Q5.o.size;dsimp only;omega)).trans f1;have Q6:=Zd (Q5.o.later hb6);have X6:=Zd (X5.o.later hb6);have F6:=Zd (HF5.o.later hb6);have hB6:=hB5.trans (hb6.mono hB5.size);refine hK.out _ _ (fun _=>⟨f6,Q6.o.c 0 rfl,Q6.o.c 1 rfl,Q6.o.c 2 rfl⟩) (fun _=>?_);clear hK K hH;refine Zq 7 ⟨f6,Q6.o.c 0 rfl,Q6.o.c 1 rfl,Q6.o.c 2 rfl⟩ ?_;refine Walks.on 8 fun K hK=>?_
  go_simp;have f8:=((Zk w6 (.cells #[.string ⟨#[]⟩,.int .i64 0,.int .i64 0,.int .i64 0,.int .i64 0,.slice none 0 0] 27)).cell (p:=⟨g,1,none⟩) (by have:=Q6.o.size;dsimp only;omega)).trans f6;have Q8:=Zd (Q6.o.alloc (.cells #[.string ⟨#[]⟩,.int .i64 0,.int .i64 0,.int .i64 0,.int .i64 0,.slice none 0 0] 27));have X8:=Zd (X6.o.alloc (.cells #[.string ⟨#[]⟩,.int .i64 0,.int .i64 0,.int .i64 0,.int .i64 0,.slice none 0 0] 27));have F8:=Zd (F6.o.later (Zk w6 (.cells #[.string ⟨#[]⟩,.int .i64 0,.int .i64 0,.int .i64 0,.int .i64 0,.slice none 0 0] 27)));have N8:=Zd (Bx.new (w:=w6) [.string ⟨#[]⟩,.int .i64 0,.int .i64 0,.int .i64 0,.int .i64 0,.slice none 0 0] 27 rfl);have hB8:Below w.1.size w (w6.alloc (.cells #[.string ⟨#[]⟩,.int .i64 0,.int .i64 0,.int .i64 0,.int .i64 0,.slice none 0 0] 27)):=Zx hB6 _;obtain⟨p,hp⟩:=nmd (w6.1.size);obtain⟨w8,hw8⟩:=nmd (w6.alloc (.cells #[.string ⟨#[]⟩,.int .i64 0,.int .i64 0,.int .i64 0,.int .i64 0,.slice none 0 0] 27));have hq5:=Q5.o.size;have hx5:=X5.o.size;have hw5s:=hB5.size;rw[←hp]at N8 ⊢;rw[←hw8]at f8 Q8 X8 F8 N8 hB8 ⊢;refine hK.out _ _ (fun _=>⟨f8,Q8.o.c 0 rfl,Q8.o.c 1 rfl,Q8.o.c 2 rfl⟩) (fun _=>?_);have hpw:w5.1.size≤p:=by omega
  clear hK K hw8 hp f6 Q6 X6 F6 hB6 hb6 f1 Q5 X5 HF5 hB5 HCL
 rotate_left
 case' _ =>
  go_simp;have f7:=((Zk w5 (.cells #[.string ⟨#[]⟩,.int .i64 0,.int .i64 0,.int .i64 0,.int .i64 0,.slice none 0 0] 27)).cell (p:=⟨g,1,none⟩) (by have:=Q5.o.size;dsimp only;omega)).trans f1;have Q7:=Zd (Q5.o.alloc (.cells #[.string ⟨#[]⟩,.int .i64 0,.int .i64 0,.int .i64 0,.int .i64 0,.slice none 0 0] 27));have X7:=Zd (X5.o.alloc (.cells #[.string ⟨#[]⟩,.int .i64 0,.int .i64 0,.int .i64 0,.int .i64 0,.slice none 0 0] 27));have F7:=Zd (HF5.o.later (Zk w5 (.cells #[.string ⟨#[]⟩,.int .i64 0,.int .i64 0,.int .i64 0,.int .i64 0,.slice none 0 0] 27)));have N7:=Zd (Bx.new (w:=w5) [.string ⟨#[]⟩,.int .i64 0,.int .i64 0,.int .i64 0,.int .i64 0,.slice none 0 0] 27 rfl);have hB7:Below w.1.size w (w5.alloc (.cells #[.string ⟨#[]⟩,.int .i64 0,.int .i64 0,.int .i64 0,.int .i64 0,.slice none 0 0] 27)):=Zx hB5 _;obtain⟨p,hp⟩:=nmd (w5.1.size);obtain⟨w7,hw7⟩:=nmd (w5.alloc (.cells #[.string ⟨#[]⟩,.int .i64 0,.int .i64 0,.int .i64 0,.int .i64 0,.slice none 0 0] 27));have hq5:=Q5.o.size;have hx5:=X5.o.size;have hw5s:=hB5.size;rw[←hp]at N7 ⊢;rw[←hw7]at f7 Q7 X7 F7 N7 hB7 ⊢;have hpw:w5.1.size≤p:=by omega
  refine hK.out _ _ (fun _=>⟨f7,Q7.o.c 0 rfl,Q7.o.c 1 rfl,Q7.o.c 2 rfl⟩) (fun _=>?_);clear hK K hH hw7 hp f1 Q5 X5 HF5 hB5;refine Walks.on 3 fun K hK=>?_
  go_simp;refine(HCL.o _).mono ?_;rintro e w8 ⟨rfl,hb80⟩;have hb8:Below w7.1.size w7 w8:=(Below.refl w7.1.size w7).drew.trans hb80;clear hb80;have hs8:=hb8.size;have f8:=(hb8.cell (p:=⟨g,1,none⟩) (by have:=Q7.o.size;dsimp only;omega)).trans f7;have Q8:=Zd (Q7.o.later hb8);have X8:=Zd (X7.o.later hb8);have F8:=Zd (F7.o.later hb8);have N8:=Zd (N7.o.later hb8);have hB8:=hB7.trans (hb8.mono hB7.size);refine hK.out _ _ (fun _=>⟨f8,Q8.o.c 0 rfl,Q8.o.c 1 rfl,Q8.o.c 2 rfl⟩) (fun _=>?_);clear hK K f7 Q7 X7 F7 N7 hB7 hb8 HCL;refine Zq 7 ⟨f8,Q8.o.c 0 rfl,Q8.o.c 1 rfl,Q8.o.c 2 rfl⟩ ?_
 all_goals
  refine Walks.on 9 fun K hK=>?_
  obtain⟨z0,z1,z2,z3,z4,z5⟩:=N8.o.y6;have zf0:=N8.o.f 0 rfl;have zf1:=N8.o.f 1 rfl;have zf2:=N8.o.f 2 rfl;have zf3:=N8.o.f 3 rfl;have zf4:=N8.o.f 4 rfl;have zf5:=N8.o.f 5 rfl;go_simp;have X9:=Zd ((((((X8.o.other (a:=⟨p,0,none⟩) (by dsimp only;omega) (.string s1)).other (a:=⟨p,1,none⟩) (by dsimp only;omega) (.int .i64 kd)).other (a:=⟨p,2,none⟩) (by dsimp only;omega) (.int .i64 sa)).other (a:=⟨p,3,none⟩) (by dsimp only;omega) (.int .i64 sb)).other (a:=⟨p,4,none⟩) (by dsimp only;omega) (.int .i64 cp)).other (a:=⟨p,5,none⟩) (by dsimp only;omega) (.slice no nx.length nc));have N9:=Zd ((((((N8.o.set 0 (.string s1)).set 1 (.int .i64 kd)).set 2 (.int .i64 sa)).set 3 (.int .i64 sb)).set 4 (.int .i64 cp)).set 5 (.slice no nx.length nc));have F9:=Zd ((((((F8.o.setAbove (a:=⟨p,0,none⟩) (by dsimp only;omega) (.string s1)).setAbove (a:=⟨p,1,none⟩) (by dsimp only;omega) (.int .i64 kd)).setAbove (a:=⟨p,2,none⟩) (by dsimp only;omega) (.int .i64 sa)).setAbove (a:=⟨p,3,none⟩) (by dsimp only;omega) (.int .i64 sb)).setAbove (a:=⟨p,4,none⟩) (by dsimp only;omega) (.int .i64 cp)).setAbove (a:=⟨p,5,none⟩) (by dsimp only;omega) (.slice no nx.length nc));have Q9:=Zd ((((((Q8.o.other (a:=⟨p,0,none⟩) (by dsimp only;omega) (.string s1)).other (a:=⟨p,1,none⟩) (by dsimp only;omega) (.int .i64 kd)).other (a:=⟨p,2,none⟩) (by dsimp only;omega) (.int .i64 sa)).other (a:=⟨p,3,none⟩) (by dsimp only;omega) (.int .i64 sb)).other (a:=⟨p,4,none⟩) (by dsimp only;omega) (.int .i64 cp)).other (a:=⟨p,5,none⟩) (by dsimp only;omega) (.slice no nx.length nc));have hB9:=((((((hB8.setCell (p:=⟨p,0,none⟩) (by dsimp only;omega) (.string s1)).setCell (p:=⟨p,1,none⟩) (by dsimp only;omega) (.int .i64 kd)).setCell (p:=⟨p,2,none⟩) (by dsimp only;omega) (.int .i64 sa)).setCell (p:=⟨p,3,none⟩) (by dsimp only;omega) (.int .i64 sb)).setCell (p:=⟨p,4,none⟩) (by dsimp only;omega) (.int .i64 cp)).setCell (p:=⟨p,5,none⟩) (by dsimp only;omega) (.slice no nx.length nc));have f9:((((((w8.setCell ⟨p,0,none⟩ (.string s1)).setCell ⟨p,1,none⟩ (.int .i64 kd)).setCell ⟨p,2,none⟩ (.int .i64 sa)).setCell ⟨p,3,none⟩ (.int .i64 sb)).setCell ⟨p,4,none⟩ (.int .i64 cp)).setCell ⟨p,5,none⟩ (.slice no nx.length nc)).cell? ⟨g,1,none⟩=some (.string s1):=by
   rw[World.cell?_setCell_other _ _ _ _ (by simp <;> omega),World.cell?_setCell_other _ _ _ _ (by simp <;> omega),World.cell?_setCell_other _ _ _ _ (by simp <;> omega),World.cell?_setCell_other _ _ _ _ (by simp <;> omega),World.cell?_setCell_other _ _ _ _ (by simp <;> omega),World.cell?_setCell_other _ _ _ _ (by simp <;> omega)];exact f8
  obtain⟨w9,hw9⟩:=nmd (((((((w8.setCell ⟨p,0,none⟩ (.string s1)).setCell ⟨p,1,none⟩ (.int .i64 kd)).setCell ⟨p,2,none⟩ (.int .i64 sa)).setCell ⟨p,3,none⟩ (.int .i64 sb)).setCell ⟨p,4,none⟩ (.int .i64 cp)).setCell ⟨p,5,none⟩ (.slice no nx.length nc)));rw[←hw9]at X9 N9 F9 Q9 hB9 f9;rw[←hw9];refine hK.out _ _ (fun _=>⟨f9,Q9.o.c 0 rfl,Q9.o.c 1 rfl,Q9.o.c 2 rfl⟩) (fun _=>?_);clear hK K;refine Walks.done (by kernel_rfl) ?_ _;clear z0 z1 z2 z3 z4 z5 zf0 zf1 zf2 zf3 zf4 zf5 X8 N8 F8 Q8 hB8 f8 Q9 f9 hw9
  cases y1
  ·have HZ:Zi (R=Wj):=by rw[Zi,HR2.o,if_neg (fun h=>by cases h.1)]
   obtain⟨x0,x1,x2,x3,x4,x5⟩:=X9.o.y6;have y0:=X9.o.f 0 rfl;have y1:=X9.o.f 1 rfl;have y2:=X9.o.f 2 rfl;have y3:=X9.o.f 3 rfl;have y4:=X9.o.f 4 rfl;have y5:=X9.o.f 5 rfl;go_wp2;refine bodyPost_ret (v:=.tuple #[.agg #[.string ⟨#[]⟩,.int .i64 0,.int .i64 0,.int .i64 0,.int .i64 0,.slice none 0 0],.bool false]) (by simp[results,results10,go_sem,x0,x1,x2,x3,x4,x5]) rfl ?_;rw[HZ.o];exact⟨⟨none,0,rfl,fun _=>rfl,.inl rfl⟩,((((((hB9|> bbs)|> bbs)|> bbs)|> bbs)|> bbs)|> bbs)⟩
  cases y2
  ·have HZ:Zi (R=Wj):=by rw[Zi,HR2.o,if_neg (fun h=>by cases h.2.1)]
   obtain⟨x0,x1,x2,x3,x4,x5⟩:=X9.o.y6;have y0:=X9.o.f 0 rfl;have y1:=X9.o.f 1 rfl;have y2:=X9.o.f 2 rfl;have y3:=X9.o.f 3 rfl;have y4:=X9.o.f 4 rfl;have y5:=X9.o.f 5 rfl;go_wp2;refine bodyPost_ret (v:=.tuple #[.agg #[.string ⟨#[]⟩,.int .i64 0,.int .i64 0,.int .i64 0,.int .i64 0,.slice none 0 0],.bool false]) (by simp[results,results10,go_sem,x0,x1,x2,x3,x4,x5]) rfl ?_;rw[HZ.o];exact⟨⟨none,0,rfl,fun _=>rfl,.inl rfl⟩,((((((hB9|> bbs)|> bbs)|> bbs)|> bbs)|> bbs)|> bbs)⟩
  cases y3
  ·have HZ:Zi (R=Wj):=by rw[Zi,HR2.o,if_neg (fun h=>by cases h.2.2.1)]
   obtain⟨x0,x1,x2,x3,x4,x5⟩:=X9.o.y6;have y0:=X9.o.f 0 rfl;have y1:=X9.o.f 1 rfl;have y2:=X9.o.f 2 rfl;have y3:=X9.o.f 3 rfl;have y4:=X9.o.f 4 rfl;have y5:=X9.o.f 5 rfl;go_wp2;refine bodyPost_ret (v:=.tuple #[.agg #[.string ⟨#[]⟩,.int .i64 0,.int .i64 0,.int .i64 0,.int .i64 0,.slice none 0 0],.bool false]) (by simp[results,results10,go_sem,x0,x1,x2,x3,x4,x5]) rfl ?_;rw[HZ.o];exact⟨⟨none,0,rfl,fun _=>rfl,.inl rfl⟩,((((((hB9|> bbs)|> bbs)|> bbs)|> bbs)|> bbs)|> bbs)⟩
  have HHT:=Zd (hasText_is s1 kd sa sb cp no nc nx w9 (by have:=HQ.o.2.1;omega) (by omega) F9.o.in);obtain⟨n0,n1,n2,n3,n4,n5⟩:=N9.o.y6;go_wp2_with fail;refine HHT.o.mono ?_;rintro e w10 ⟨rfl,hb10⟩;have hB10:=hB9.trans (hb10.mono hB9.size);have X10:=Zd (X9.o.later hb10);have N10:=Zd (N9.o.later hb10);have F10:=Zd (F9.o.later hb10);clear hb10 X9 N9 F9 hB9 HHT n0 n1 n2 n3 n4 n5
  cases hh:hasT s1 kd sa sb cp nx
  ·have HZ:Zi (R=Wj):=by rw[Zi,HR2.o,if_neg (fun h=>by rw[hh]at h;cases h.2.2.2)]
   obtain⟨x0,x1,x2,x3,x4,x5⟩:=X10.o.y6;have y0:=X10.o.f 0 rfl;have y1:=X10.o.f 1 rfl;have y2:=X10.o.f 2 rfl;have y3:=X10.o.f 3 rfl;have y4:=X10.o.f 4 rfl;have y5:=X10.o.f 5 rfl;go_wp2;refine bodyPost_ret (v:=.tuple #[.agg #[.string ⟨#[]⟩,.int .i64 0,.int .i64 0,.int .i64 0,.int .i64 0,.slice none 0 0],.bool false]) (by simp[results,results10,go_sem,x0,x1,x2,x3,x4,x5]) rfl ?_;rw[HZ.o];exact⟨⟨none,0,rfl,fun _=>rfl,.inl rfl⟩,((((((hB10|> bbs)|> bbs)|> bbs)|> bbs)|> bbs)|> bbs)⟩
  have HY:Zi (R=((s1,kd,sa,sb,cp,nx),true)):=by rw[Zi,HR2.o,if_pos (by simp[hh])]
  clear hh HR2;obtain⟨n0,n1,n2,n3,n4,n5⟩:=N10.o.y6;obtain⟨x0,x1,x2,x3,x4,x5⟩:=X10.o.y6;have y0:=X10.o.f 0 rfl;have y1:=X10.o.f 1 rfl;have y2:=X10.o.f 2 rfl;have y3:=X10.o.f 3 rfl;have y4:=X10.o.f 4 rfl;have y5:=X10.o.f 5 rfl;go_wp2;refine bodyPost_ret (v:=.tuple #[.agg #[.string s1,.int .i64 kd,.int .i64 sa,.int .i64 sb,.int .i64 cp,.slice no nx.length nc],.bool true]) (by simp[results,results10,go_sem,x0,x1,x2,x3,x4,x5]) rfl ?_;rw[HY.o];refine⟨⟨no,nc,rfl,hno5,?_⟩,((((((hB10|> bbs)|> bbs)|> bbs)|> bbs)|> bbs)|> bbs)⟩;exact(((((((F10.o.setBelow (a:=⟨w.1.size,0,none⟩) (by dsimp only;omega) _).setBelow (a:=⟨w.1.size,1,none⟩) (by dsimp only;omega) _).setBelow (a:=⟨w.1.size,2,none⟩) (by dsimp only;omega) _).setBelow (a:=⟨w.1.size,3,none⟩) (by dsimp only;omega) _).setBelow (a:=⟨w.1.size,4,none⟩) (by dsimp only;omega) _).setBelow (a:=⟨w.1.size,5,none⟩) (by dsimp only;omega) _).low (Nat.le_refl _)).wide (by omega) (Nat.le_refl _)
theorem Fy(ao:Option Addr)(cap:Nat)(ts:List (Int×Int×Int))(w:World)(hl:ts.length≤1048576)(hz:kTk.In w.1.size w ao ts) :
  Calls prog 264 #[.slice ao ts.length cap] w fun e w'=>(∃v,e=.returned v∧kTk.Own w.1.size w' v ts)∧Below w.1.size w w':=by
 by_cases h0:ts.length=0
 ·obtain rfl:ts=[]:=List.length_eq_zero_iff.1 h0;go_enter func264,ntmps264;go_wp2;go_ret;exact⟨⟨_,rfl,Kind.Own.nil _ _ _⟩,Below.refl _ _⟩
 ·have h0':((ts.length:Int)==0)=false:=(len1 h0).1;obtain⟨i0,z0,hi,hz0,hz1,hz2,hz3⟩:=Mt.info;have HZ:Zi (kTk.In w.1.size w ao ts):=hz;have hby:i0.bytes*ts.length≤281474976710656:=by have:i0.bytes*ts.length≤4096*1048576:=Nat.mul_le_mul hz3 hl;omega
  clear hz;go_enter func264,ntmps264;go_wp2_with (at_make;refine wpList_make_full _ rfl _ _ kTk.st rfl w.1.size kTk.ty i0 z0 kTk.sz Mt.und hi hz0 hz1 .i64 .i64 _ _ ts.length rfl rfl rfl rfl hby (by unfold maxLen;omega) (Nat.le_refl _) ?_;intro w1 hown hgrow;obtain⟨cur,hcur,hcl,_⟩:=Yk hown;have hB1:Below w.1.size w w1:=(Below.refl _ _).grown hgrow (Nat.le_refl _) (fun k e=>by cases e);obtain⟨w2,hrun,hh,hO⟩:=Uy (n:=ts.length) (cap:=cap) (ty:=3) Mt hcur hcl (Nat.le_refl _) HZ.o hB1;have hB2:Below w.1.size w w2:=hB1.trans (hO.below (Nat.le_refl _));have HH:=show Zi (_∧_)from And.intro hcl hh;unfold kTk at hrun;dsimp only at hrun;clear hown hgrow hcur hh hO hcl);go_ret;have e:cur.drop (ts.length*kTk.sz)=[]:=List.drop_eq_nil_of_le (by rw[HH.o.1];exact Nat.le_refl _);have hh:=HH.o.2;rw[e,List.append_nil]at hh;exact⟨⟨_,rfl,Kt hh rfl (Nat.le_refl _) (by omega)⟩,hB2⟩
theorem take_any(lo:Nat)(W:World)(p bb:Nat)(gv sv:Value)(xs:List Value)(ev fv uv:Value)(s:PP)(k:Nat)(t1 t2 t3:Int)(r:List (Int×Int×Int))(h:Flow lo W p bb gv sv xs ev fv uv s)(hk:k<s.bx.length)(hr:el s.bx k=(t1,t2,t3)::r)(ht:Zs s.bx≤100000) :
  Calls prog 240 #[.pointer (some ⟨p,0,none⟩),.int .i64 (k:Int)] W fun e W'=>e=.returned (.agg #[.int .i64 t1,.int .i64 t2,.int .i64 t3])∧FStep lo p gv sv (FO p bb xs ev fv uv) W W' { s with bx:=s.bx.set k r }:=by
 have hp:=h.box.size;have hbb:=h.hnd.size;have hxk:k<xs.length:=by rw[h.hnd.len];exact hk
 have hTe:=Kl hk;obtain⟨ho,hc,hsl,hcn,hFr⟩:=h.hnd.slice hk;rw[hr]at hsl hFr hTe;obtain⟨g,rfl,hg1,hg2,hg3,hgo⟩:=hFr.at (by simp);have hIn:=hFr.in;have hcap:r.length+1≤hc:=by have:=hFr.cap;simpa using this
 simp only[List.length_cons]at hsl hTe;have hb0:=Zk W (.cells #[.int .i64 0,.int .i64 0,.int .i64 0] 163);have F0:=h.later hb0;have T0:=Bx.new (w:=W) [.int .i64 0,.int .i64 0,.int .i64 0] 163 rfl;obtain⟨V,hV⟩:=nmd (W.alloc (.cells #[.int .i64 0,.int .i64 0,.int .i64 0] 163));rw[←hV]at hb0 F0 T0;have hI0:=hIn.later hb0;have HV:=Zd hV;have c5:=F0.box.c 5 rfl;have ck:=(F0.head hk).1;rw[hsl]at ck;have hki:(k:Int)<(s.bx.length:Int):=by omega
 have hVs:V.1.size=W.1.size+1:=by rw[hV];simp
 have HVs:=Zd hVs;have HF0:=Zd F0;have HB0:=Zd hb0;have HT0:=Zd T0;have hle1:(1:Int)≤(r.length:Int)+1:=by omega
 have hI1:kTk.In V.1.size V (if hc=1 then some ⟨g,0,none⟩else some ⟨g,3,none⟩) r:=by
  by_cases h0:r.length=0
  ·exact .inl (List.length_eq_zero_iff.1 h0)
  ·rw[if_neg (by omega)];obtain⟨b,off,e,hb,hcs⟩:=Ub hI0 (k:=0) (by simp)
   simp at e
   obtain⟨rfl,rfl⟩:=e;refine .inr ⟨g,3,rfl,hb,fun j hj i hi=>?_⟩;have hcj:=hcs (j+1) (by simp;omega);have ej:el ((t1,t2,t3)::r) (j+1)=el r j:=by simp[el]
   rw[ej]at hcj;have hi':i<3:=hi;have e0:0+(j+1)*3=3+j*3:=by omega
   rw[e0]at hcj
   rcases(show i=0∨i=1∨i=2 from by omega)with rfl|rfl|rfl
   ·exact hcj.1
   ·exact hcj.2.1
   ·exact hcj.2.2
 have c5w:=h.box.c 5 rfl;have ckw:=(h.head hk).1;rw[hsl]at ckw;have HI1:=Zd hI1;have HIN:=Zd hI0;clear hV hb0 F0 T0 hI1 hI0 hIn hFr hgo;go_enter func240,ntmps240;go_wp2;rw[←HV.o];clear c5w ckw;refine Qq (zl:=[10]) (S:=fun Y=>Y.cell? ⟨p,5,none⟩=some (.slice (some ⟨bb,0,none⟩) s.bx.length s.bx.length)) (by kernel_rfl) c5 (fun hH=>?_);refine Zq 0 hH ?_;refine Zq 1 hH ?_;refine Zq 2 hH ?_;refine Zq 3 hH ?_;refine Zq 4 hH ?_;refine Zq 5 hH ?_;refine Zq 6 hH ?_;refine Zq 7 hH ?_;refine Walks.on 8 fun K hK=>?_
 go_simp;refine(Fy (if hc=1 then some ⟨g,0,none⟩else some ⟨g,3,none⟩) (hc-1) r V.drew (by omega) (HI1.o.later (Below.refl V.1.size V).drew)).mono ?_;rintro e w2 ⟨⟨v',rfl,hO2⟩,hb20⟩;have hb2:Below V.1.size V w2:=(Below.refl V.1.size V).drew.trans hb20;clear hb20;obtain⟨vo,vc,hv',_,_⟩:=hO2.fresh;have hpV:p<V.1.size:=by have:=HVs.o;omega
 have hbV:bb<V.1.size:=by have:=HVs.o;omega
 have c5':=(hb2.cell (p:=⟨p,5,none⟩) hpV).trans c5;refine hK.out _ _ (fun _=>c5') (fun _=>?_);clear hK K hH;have F2:=HF0.o.later hb2;have cB:=(F2.head hk).1;have fB:=(F2.head hk).2;rw[hsl]at cB;refine Zq 9 c5' ?_;refine Walks.on 10 fun K hK=>?_
 rw[hv'];go_simp;refine hK.out _ _ (fun h=>absurd h (by decide)) (fun _=>?_);refine Walks.done (by kernel_rfl) ?_ _;clear hK K;have hTS:=Jb (ls:=s.bx) (k:=k) r hk;rw[hr,List.length_cons]at hTS;have BX3:=F2.box.other (a:=⟨bb,k,none⟩) (fun e=>h.pbb e.symm) (.slice vo r.length vc);have c9:=BX3.c 9 rfl;have f9:=BX3.f 9 rfl;obtain⟨w3,h3⟩:=nmd (w2.setCell ⟨bb,k,none⟩ (.slice vo r.length vc));rw[←h3]at BX3 c9 f9 ⊢;have H3:=Zd h3;have HB3:=Zd BX3;have HTS:=Zd hTS;clear h3 BX3 hTS cB fB c5' c5;have hgw:g<V.1.size:=by have:=HVs.o;omega
 have hgbb:g≠bb:=by omega
 have hI3:=HIN.o;obtain⟨b0,off0,e0,hbl,hcs⟩:=Ub hI3 (k:=0) (by simp)
 simp at e0
 obtain⟨rfl,rfl⟩:=e0;have hc0:=hcs 0 (by simp);have k3:∀i,w3.cell? ⟨g,i,none⟩=V.cell? ⟨g,i,none⟩:=fun i=>by rw[H3.o];exact(World.cell?_setCell_far _ _ _ _ (fun e=>hgbb e.symm)).trans (hb2.cell (p:=⟨g,i,none⟩) hgw)
 have hne:∀j,(el ((t1,t2,t3)::r) 0)=(t1,t2,t3)∨j=(0:Nat):=fun _=>.inl rfl
 have hgp:g≠p:=fun e=>h.px k hk (by rw[hsl,←e];rfl)
 have hrw:∀b,(el xs k).ownBlock=some b→b=g:=fun b hb=>by rw[hsl]at hb;simp[Value.ownBlock]at hb;exact hb.symm
 have XT:=((HT0.o.later hb2).other (a:=⟨bb,k,none⟩) (by simp only;omega) (.slice vo r.length vc));rw[←H3.o]at XT;have HXT:=Zd XT;clear XT HI1 hne
 generalize(if hc=1 then some (⟨g,0,none⟩:Addr)else some ⟨g,3,none⟩)=qq
 go_wp2_with fail;refine(add_any p 9 (Zs s.bx:Int) (-1) (Zs s.bx + -1:Int) w3 c9 f9 rfl (by omega) (by omega)).mono ?_;rintro e w4 ⟨rfl,h4⟩;have k4:∀i,w4.cell? ⟨g,i,none⟩=V.cell? ⟨g,i,none⟩:=fun i=>by rw[h4];exact(World.cell?_setCell_far _ _ _ _ (fun e=>hgp e.symm)).trans (k3 i)
 have d0:w4.cell? ⟨g,0,none⟩=some (.int .i64 t1):=(k4 0).trans hc0.1;have d1:w4.cell? ⟨g,1,none⟩=some (.int .i64 t2):=(k4 1).trans hc0.2.1;have d2:w4.cell? ⟨g,2,none⟩=some (.int .i64 t3):=(k4 2).trans hc0.2.2;have X4:Bx w4 W.1.size [.int .i64 0,.int .i64 0,.int .i64 0]:=by rw[h4];exact HXT.o.other (a:=⟨p,9,none⟩) (by simp only;omega) _
 obtain⟨r0,r1,r2⟩:=X4.y3;have q0:=X4.f 0 rfl;have q1:=X4.f 1 rfl;have q2:=X4.f 2 rfl;have H4:=Zd h4;clear h4 c9 f9 k3 k4 hc0 hcs X4;go_wp2;refine bodyPost_ret (v:=.agg #[.int .i64 t1,.int .i64 t2,.int .i64 t3]) (by simp[results,results240,go_sem,r0,r1,r2]) rfl ⟨rfl,?_⟩;have hw3:∀b,v'.ownBlock=some b→V.1.size≤b∧b<w2.1.size:=fun b hb=>Zj hO2 hb
 have hT:(Zs (s.bx.set k r):Int)=Zs s.bx + -1:=by have:=HTS.o;omega
 have hpw:∀j,j<(s.bx.set k r).length→(el (xs.set k v') j).ownBlock≠some p:=fun j hj=>by
  rw[List.length_set]at hj
  by_cases e:j=k
  ·subst e;rw[Zh hxk];intro hb;have:=hw3 p hb
   omega
  ·rw[Zm e];exact h.px j hj
 have hO2':kTk.Own (bb+1) w2 v' r:=Yn hO2 (by show bb+1≤V.1.size;omega);have hnd3:HandsT bb w3 (xs.set k v') (s.bx.set k r):=by
  rw[H3.o,←hv'];exact HF0.o.hnd.put hk hO2' ⟨hb2.os,hb2.tape,hb2.output,hb2.size,fun b h1 _=>hb2.block b h1⟩ (fun b hb=>.inr (hw3 b hb).1)
 have hnd4:HandsT bb w4 (xs.set k v') (s.bx.set k r):=by
  rw[H4.o];exact hnd3.keep (Below.heap_setCell _ _ _ _ (fun e=>h.pbb e.symm)) (fun j hj b hb=>Below.heap_setCell _ _ _ _ (fun e=>hpw j hj (by have e':b=p:=e;rw[←e'];exact hb)))
 have hbx4:=HB3.o.set 9 (.int .i64 (Zs s.bx + -1));rw[←H4.o]at hbx4;have hkeep:∀b,b<V.1.size→b≠p→b≠bb→w4.heap[b]? = V.heap[b]? := fun b h1 h2 h3=>by
  rw[H4.o,Below.heap_setCell _ _ _ _ h2,H3.o,Below.heap_setCell _ _ _ _ h3];exact hb2.block b h1
 have F4:Flow lo w4 p bb gv sv (xs.set k v') ev fv uv { s with bx:=s.bx.set k r }:=HF0.o.turn (by rw[List.length_set,hT];exact hbx4) hnd4 (fun b hb=>by
  obtain⟨a1,a2,a3,_⟩:=HF0.o.apart hb;exact hkeep b a1 a2 a3) hpw
 have hVs:=HVs.o;have hFO:∀b,FO p bb (xs.set k v') ev fv uv b→(FO p bb xs ev fv uv b∨V.1.size≤b):=fun b hb=>by
  rcases hb with hb|hb|⟨j,hj,hb⟩|hb|hb|hb
  ·exact .inl (.inl hb)
  ·exact .inl (.inr (.inl hb))
  ·rw[List.length_set]at hj
   by_cases e:j=k
   ·subst e;rw[Zh hxk]at hb;exact .inr (hw3 b hb).1
   ·rw[Zm e]at hb;exact .inl (.inr (.inr (.inl ⟨j,hj,hb⟩)))
  ·exact .inl (.inr (.inr (.inr (.inl hb))))
  ·exact .inl (.inr (.inr (.inr (.inr (.inl hb)))))
  ·exact .inl (.inr (.inr (.inr (.inr (.inr hb)))))
 have hold:∀b,FO p bb xs ev fv uv b→b<W.1.size:=fun b hb=>by
  rcases hb with hb|hb|⟨j,hj,hb⟩|hb
  ·omega
  ·omega
  ·exact(Zj (h.hnd.row j (by rw[←h.hnd.len];exact hj)) hb).2
  ·exact(h.apart hb).1
 have hnR:¬FO p bb (xs.set k v') ev fv uv W.1.size:=fun hb=>by
  rcases hFO _ hb with h1|h1
  ·have:=hold _ h1;omega
  ·omega
 have F5:=((F4.setFar (a:=⟨W.1.size,0,none⟩) hnR (.int .i64 t1)).setFar (a:=⟨W.1.size,1,none⟩) hnR (.int .i64 t2)).setFar (a:=⟨W.1.size,2,none⟩) hnR (.int .i64 t3);refine⟨FO p bb (xs.set k v') ev fv uv,⟨bb,xs.set k v',ev,fv,uv,F5,fun b hb=>hb⟩,fun b hb=>?_,?_,fun b hb hO=>?_⟩
 ·rcases hFO b hb with h1|h1
  ·exact .inl h1
  ·exact .inr (by omega)
 ·have hW:Below lo W w2:=(HB0.o.mono (Nat.le_trans h.lop (by omega))).trans (hb2.mono (by have:=h.lop;omega));have h4:Below lo W w4:=by rw[H4.o,H3.o];exact(hW.setCell (p:=⟨bb,k,none⟩) h.lob _).setCell (p:=⟨p,9,none⟩) h.lop _
  have hR:lo≤W.1.size:=Nat.le_trans h.lop (by omega);exact((h4.setCell (p:=⟨W.1.size,0,none⟩) hR _).setCell (p:=⟨W.1.size,1,none⟩) hR _).setCell (p:=⟨W.1.size,2,none⟩) hR _
 ·have hbn:b≠W.1.size:=by omega
  rw[Below.heap_setCell _ _ _ _ hbn,Below.heap_setCell _ _ _ _ hbn,Below.heap_setCell _ _ _ _ hbn,hkeep b (by omega) (fun e=>hO (.inl e)) (fun e=>hO (.inr (.inl e)))];exact HB0.o.block b hb
theorem FStep.next{lo p:Nat}{gv sv:Value}{O:Nat→Prop}{W W1:World}{s1:PP}(h:FStep lo p gv sv O W W1 s1) :
  ∃bb xs ev fv uv,Flow lo W1 p bb gv sv xs ev fv uv s1∧(∀b,b<W.1.size→¬O b→W1.heap[b]? = W.heap[b]?)∧Below lo W W1∧(∀b,FO p bb xs ev fv uv b→O b∨W.1.size≤b)∧
   ∀(V W2:World)(s2:PP),Below W1.1.size W1 V→FStep lo p gv sv (FO p bb xs ev fv uv) V W2 s2→FStep lo p gv sv O W W2 s2:=by
 obtain⟨O1,⟨bb,xs,ev,fv,uv,F,hF⟩,hs,hb,hk⟩:=h;refine⟨bb,xs,ev,fv,uv,F,hk,hb,fun b h1=>hs b (hF b h1),fun V W2 s2 hV h2=>?_⟩;obtain⟨O2,f2,hs2,hb2,hk2⟩:=h2;have hz:=hb.size;have hzV:=hV.size;have hlo:lo≤W1.1.size:=Nat.le_of_lt (Nat.lt_of_le_of_lt F.lop F.box.size);refine⟨O2,f2,fun b h1=>?_,hb.trans ((hV.mono hlo).trans hb2),fun b h1 h3=>?_⟩
 ·rcases hs2 b h1 with h4|h4
  ·exact hs b (hF b h4)
  ·exact .inr (by omega)
 ·have hn:¬FO p bb xs ev fv uv b:=fun h4=>by
   rcases hs b (hF b h4)with h5|h5
   ·exact h3 h5
   ·omega
  exact(hk2 b (by omega) hn).trans ((hV.block b (by omega)).trans (hk b h1 h3))
theorem Flow.putEm{lo:Nat}{U w2:World}{p bb:Nat}{gv sv:Value}{xs:List Value}{ev fv uv v':Value}{s:PP}{L:_}(h:Flow lo U p bb gv sv xs ev fv uv s)(hO:kOu.Own lo w2 v' L)(hB:Below lo U w2)(hG:U.grownBy w2 ev.ownBlock)(hw:∀g,v'.ownBlock=some g→ev.ownBlock=some g∨U.1.size≤g) :
  FStep lo p gv sv (FO p bb xs ev fv uv) U (w2.setCell ⟨p,6,none⟩ v') { s with em:=L }:=by
 have hp:=h.box.size;have kp:w2.heap[p]? = U.heap[p]? := hG.block p hp (fun e=>h.pe e.symm);have hpv:v'.ownBlock≠some p:=fun e=>by
  rcases hw p e with h1|h1
  ·exact h.pe h1
  ·omega
 have hkp:∀b,b<U.1.size→b≠p→ev.ownBlock≠some b→(w2.setCell ⟨p,6,none⟩ v').heap[b]? = U.heap[b]? := fun b h1 h2 h3=>(Below.heap_setCell _ _ _ _ h2).trans (hG.block b h1 (fun e=>h3 e.symm))
 have hme:∀b,ev.ownBlock=some b→b<U.1.size∧b≠p∧b≠bb∧∀j,j<s.bx.length→(el xs j).ownBlock≠some b:=fun b hb=>h.apart (.inl hb)
 refine⟨FO p bb xs v' fv uv,⟨bb,xs,v',fv,uv,⟨(h.box.keep hG.size kp).set 6 v',h.hnd.keep (hkp bb h.hnd.size (fun e=>h.pbb e.symm) (fun e=>(hme bb e).2.2.1 rfl)) (fun j hj b hb=>hkp b (Zj (h.hnd.row j hj) hb).2 (fun e=>h.px j hj (by rw[←e];exact hb)) (fun e=>(hme b e).2.2.2 j hj hb)),Za hO fun b hb=>Below.heap_setCell _ _ _ _ (fun e=>hpv (by have e':b=p:=e;rw[←e'];exact hb)),Za h.fao fun b hb=>hkp b (Zj h.fao hb).2 (fun e=>h.pf (by rw[←e];exact hb)) (Xm h.fao h.emo (by decide) hb),Za h.fuo fun b hb=>hkp b (Zj h.fuo hb).2 (fun e=>h.pu (by rw[←e];exact hb)) (Xm h.fuo h.emo (by decide) hb),h.lop,h.lob,h.pbb,h.px,hpv,h.pf,h.pu⟩,fun b hb=>hb⟩,fun b hb=>?_,hB.setCell (p:=⟨p,6,none⟩) h.lop _,fun b hb hO=>hkp b hb (fun e=>hO (.inl e)) (fun e=>hO (.inr (.inr (.inr (.inl e)))))⟩
 rcases hb with hb|hb|hb|hb|hb|hb
 ·exact .inl (.inl hb)
 ·exact .inl (.inr (.inl hb))
 ·exact .inl (.inr (.inr (.inl hb)))
 ·rcases hw b hb with hb|h1
  ·exact .inl (.inr (.inr (.inr (.inl hb))))
  ·exact .inr h1
 ·exact .inl (.inr (.inr (.inr (.inr (.inl hb)))))
 ·exact .inl (.inr (.inr (.inr (.inr (.inr hb)))))
theorem Flow.putFa{lo:Nat}{U w2:World}{p bb:Nat}{gv sv:Value}{xs:List Value}{ev fv uv v':Value}{s:PP}{L:_}(h:Flow lo U p bb gv sv xs ev fv uv s)(hO:kLo.Own lo w2 v' L)(hB:Below lo U w2)(hG:U.grownBy w2 fv.ownBlock)(hw:∀g,v'.ownBlock=some g→fv.ownBlock=some g∨U.1.size≤g) :
  FStep lo p gv sv (FO p bb xs ev fv uv) U (w2.setCell ⟨p,7,none⟩ v') { s with fa:=L }:=by
 have hp:=h.box.size;have kp:w2.heap[p]? = U.heap[p]? := hG.block p hp (fun e=>h.pf e.symm);have hpv:v'.ownBlock≠some p:=fun e=>by
  rcases hw p e with h1|h1
  ·exact h.pf h1
  ·omega
 have hkp:∀b,b<U.1.size→b≠p→fv.ownBlock≠some b→(w2.setCell ⟨p,7,none⟩ v').heap[b]? = U.heap[b]? := fun b h1 h2 h3=>(Below.heap_setCell _ _ _ _ h2).trans (hG.block b h1 (fun e=>h3 e.symm))
 have hme:∀b,fv.ownBlock=some b→b<U.1.size∧b≠p∧b≠bb∧∀j,j<s.bx.length→(el xs j).ownBlock≠some b:=fun b hb=>h.apart (.inr (.inl hb))
 refine⟨FO p bb xs ev v' uv,⟨bb,xs,ev,v',uv,⟨(h.box.keep hG.size kp).set 7 v',h.hnd.keep (hkp bb h.hnd.size (fun e=>h.pbb e.symm) (fun e=>(hme bb e).2.2.1 rfl)) (fun j hj b hb=>hkp b (Zj (h.hnd.row j hj) hb).2 (fun e=>h.px j hj (by rw[←e];exact hb)) (fun e=>(hme b e).2.2.2 j hj hb)),Za h.emo fun b hb=>hkp b (Zj h.emo hb).2 (fun e=>h.pe (by rw[←e];exact hb)) (Xm h.emo h.fao (by decide) hb),Za hO fun b hb=>Below.heap_setCell _ _ _ _ (fun e=>hpv (by have e':b=p:=e;rw[←e'];exact hb)),Za h.fuo fun b hb=>hkp b (Zj h.fuo hb).2 (fun e=>h.pu (by rw[←e];exact hb)) (Xm h.fuo h.fao (by decide) hb),h.lop,h.lob,h.pbb,h.px,h.pe,hpv,h.pu⟩,fun b hb=>hb⟩,fun b hb=>?_,hB.setCell (p:=⟨p,7,none⟩) h.lop _,fun b hb hO=>hkp b hb (fun e=>hO (.inl e)) (fun e=>hO (.inr (.inr (.inr (.inr (.inl e))))))⟩
 rcases hb with hb|hb|hb|hb|hb|hb
 ·exact .inl (.inl hb)
 ·exact .inl (.inr (.inl hb))
 ·exact .inl (.inr (.inr (.inl hb)))
 ·exact .inl (.inr (.inr (.inr (.inl hb))))
 ·rcases hw b hb with hb|h1
  ·exact .inl (.inr (.inr (.inr (.inr (.inl hb)))))
  ·exact .inr h1
 ·exact .inl (.inr (.inr (.inr (.inr (.inr hb)))))
theorem Flow.putFu{lo:Nat}{U w2:World}{p bb:Nat}{gv sv:Value}{xs:List Value}{ev fv uv v':Value}{s:PP}{L:_}(h:Flow lo U p bb gv sv xs ev fv uv s)(hO:kI.Own lo w2 v' L)(hB:Below lo U w2)(hG:U.grownBy w2 uv.ownBlock)(hw:∀g,v'.ownBlock=some g→uv.ownBlock=some g∨U.1.size≤g) :
  FStep lo p gv sv (FO p bb xs ev fv uv) U (w2.setCell ⟨p,8,none⟩ v') { s with fu:=L }:=by
 have hp:=h.box.size;have kp:w2.heap[p]? = U.heap[p]? := hG.block p hp (fun e=>h.pu e.symm);have hpv:v'.ownBlock≠some p:=fun e=>by
  rcases hw p e with h1|h1
  ·exact h.pu h1
  ·omega
 have hkp:∀b,b<U.1.size→b≠p→uv.ownBlock≠some b→(w2.setCell ⟨p,8,none⟩ v').heap[b]? = U.heap[b]? := fun b h1 h2 h3=>(Below.heap_setCell _ _ _ _ h2).trans (hG.block b h1 (fun e=>h3 e.symm))
 have hme:∀b,uv.ownBlock=some b→b<U.1.size∧b≠p∧b≠bb∧∀j,j<s.bx.length→(el xs j).ownBlock≠some b:=fun b hb=>h.apart (.inr (.inr hb))
 refine⟨FO p bb xs ev fv v',⟨bb,xs,ev,fv,v',⟨(h.box.keep hG.size kp).set 8 v',h.hnd.keep (hkp bb h.hnd.size (fun e=>h.pbb e.symm) (fun e=>(hme bb e).2.2.1 rfl)) (fun j hj b hb=>hkp b (Zj (h.hnd.row j hj) hb).2 (fun e=>h.px j hj (by rw[←e];exact hb)) (fun e=>(hme b e).2.2.2 j hj hb)),Za h.emo fun b hb=>hkp b (Zj h.emo hb).2 (fun e=>h.pe (by rw[←e];exact hb)) (Xm h.emo h.fuo (by decide) hb),Za h.fao fun b hb=>hkp b (Zj h.fao hb).2 (fun e=>h.pf (by rw[←e];exact hb)) (Xm h.fao h.fuo (by decide) hb),Za hO fun b hb=>Below.heap_setCell _ _ _ _ (fun e=>hpv (by have e':b=p:=e;rw[←e'];exact hb)),h.lop,h.lob,h.pbb,h.px,h.pe,h.pf,hpv⟩,fun b hb=>hb⟩,fun b hb=>?_,hB.setCell (p:=⟨p,8,none⟩) h.lop _,fun b hb hO=>hkp b hb (fun e=>hO (.inl e)) (fun e=>hO (.inr (.inr (.inr (.inr (.inr e))))))⟩
 rcases hb with hb|hb|hb|hb|hb|hb
 ·exact .inl (.inl hb)
 ·exact .inl (.inr (.inl hb))
 ·exact .inl (.inr (.inr (.inl hb)))
 ·exact .inl (.inr (.inr (.inr (.inl hb))))
 ·exact .inl (.inr (.inr (.inr (.inr (.inl hb)))))
 ·rcases hw b hb with hb|h1
  ·exact .inl (.inr (.inr (.inr (.inr (.inr hb)))))
  ·exact .inr h1
end Go.Proofs.YtdacedbfnlkghaaGreatDoor