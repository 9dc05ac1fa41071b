/- The law of LastPipe: it returns true. No conditions but those written. -/
import Derived.Test.YtdacedbfnlkghaaGreatDoorUSlpRab
namespace Go.Proofs.YtdacedbfnlkghaaGreatDoor
set_option maxHeartbeats 16000000
set_option maxRecDepth 100000
open Go.Proofs.Tryz
open Go.RowKit
def AnsLB(W:World)(s:PP)(b:Bool)(e:Ending)(W':World):Prop :=
 (∃so sc eo ec fo fc uo uc,e=.returned (.tuple #[.agg #[.int .i64 s.ti,.int .i64 s.it,.bool s.cl,.slice so s.bx.length sc,.slice eo s.em.length ec,.slice fo s.fa.length fc,.slice uo s.fu.length uc],.bool b])∧FrPipe W.1.size W'.1.size W' so sc s.bx eo ec s.em fo fc s.fa uo uc s.fu)∧Below W.1.size W W'
def zP:PP:={ ti:=0,it:=0,cl:=false,bx:=[],em:=[],fa:=[],fu:=[] }
def isLP(s:ByteArray):Prop:=(Qy s).2=true∧(Qz st0 (Qy s).1).1.bg=true∧(Qz st0 (Qy s).1).1.bad=0
noncomputable def lpS(s:ByteArray):PP×Bool:=open Classical in if isLP s then((Qz st0 (Qy s).1).1.s,true)else(zP,false)
theorem ansLP_lb{W:World}{s:ByteArray}{e:Ending}{W':World}(h:AnsLP W s e W'):AnsLB W (lpS s).1 (lpS s).2 e W':=by
 obtain⟨hA,hb⟩:=h;refine⟨?_,hb⟩
 by_cases hg:isLP s
 ·rw[if_pos (show(Qy s).2=true∧(Qz st0 (Qy s).1).1.bg=true∧(Qz st0 (Qy s).1).1.bad=0 from hg)]at hA;have e1:lpS s=((Qz st0 (Qy s).1).1.s,true):=by unfold lpS;rw[if_pos hg]
  rw[e1];obtain⟨st,bb,eo,ec,fo,fc,uo,uc,rfl,he,h1,h2,h3,h4⟩:=hA;exact⟨_,_,eo,ec,fo,fc,uo,uc,he,h1.wide (Nat.le_succ _) (Nat.le_refl _),h2.wide (Nat.le_succ _) (Nat.le_refl _),h3.wide (Nat.le_succ _) (Nat.le_refl _),h4.wide (Nat.le_succ _) (Nat.le_refl _)⟩
 ·rw[if_neg (show¬((Qy s).2=true∧(Qz st0 (Qy s).1).1.bg=true∧(Qz st0 (Qy s).1).1.bad=0)from hg)]at hA;have e1:lpS s=(zP,false):=by unfold lpS;rw[if_neg hg]
  rw[e1];exact⟨none,0,none,0,none,0,none,0,hA,⟨[],FrRT.nil _ _ _ _ _⟩,.inl rfl,.inl rfl,.inl rfl⟩
theorem FrPipe.betwL{lo hi lo' hi':Nat}{W W':World}{bxo:Option Addr}{bxc:Nat}{bx:List (List (Int×Int×Int))}{emo:Option Addr}{emc:Nat}{em:List (Int×Int×Int)}{fao:Option Addr}{fac:Nat}{fa:List (Int×Int×Int×Int)}{fuo:Option Addr}{fuc:Nat}{fu:List Int}(h:FrPipe lo hi W bxo bxc bx emo emc em fao fac fa fuo fuc fu)(hb:Between lo' hi' W W')(hd:hi≤lo'∨hi'≤lo):FrPipe lo hi W' bxo bxc bx emo emc em fao fac fa fuo fuc fu :=
 ⟨h.1.between' hb hd,h.2.1.between' hb hd,h.2.2.1.between' hb hd,h.2.2.2.between' hb hd⟩
theorem Bx.betwL{lo hi p:Nat}{W W':World}{vs:List Value}(h:Bx W p vs)(hb:Between lo hi W W')(hd:p<lo∨hi≤p):Bx W' p vs:=h.keep hb.size (hb.block p h.size hd)
structure SmallL(s:PP):Prop where
 b:s.bx.length≤1048576∧Zs s.bx≤1048576
 e:s.em.length≤1048576
 f:s.fa.length≤1048576
 u:s.fu.length≤1048576
theorem lpS_small(s:ByteArray):SmallL (lpS s).1:=by
 unfold lpS
 split
 ·rename_i hg;have hI:=(Tn (Qy s).1 SSI.start).run hg.2.1 hg.2.2;have hw:=hI.2.1.raw hI.2.2.1;have h1:=hw.tot;have h2:=hw.em;have h3:=hw.fu;have h4:=hw.len;have h5:=(Ut hI.1).1.edg.many;exact⟨⟨by dsimp only;omega,by dsimp only;omega⟩,by dsimp only;omega,by dsimp only;omega,by dsimp only;omega⟩
 ·exact⟨⟨by simp[zP],by simp[zP,Zs]⟩,by simp[zP],by simp[zP],by simp[zP]⟩
theorem mkEnd_leL{bx:List (List (Int×Int×Int))}{em:List (Int×Int×Int)}{fa:List (Int×Int×Int×Int)}{fu:List Int}:1≤Dn 1 bx em fa fu:=by
 unfold Dn mkFu mkFa mkEm;omega
theorem Mm(t:ByteArray)(ea:Nat→Addr)(w:World)(hV:Env w.1.size w ea) :
  Calls prog 6 #[.string t] w fun e w'=>e=.returned (.bool true)∧Below w.1.size w w':=by
 by_cases hbig:1048576<t.size
 ·have hbig':decide (1048576<(t.size:Int))=true:=by simp;omega
  go_enter func6,ntmps6;go_wp2;go_ret;exact⟨rfl,Below.refl _ _⟩
 have hbig':decide (1048576<(t.size:Int))=false:=by simp;omega
 have HSP:=Zd (fun W=>(specLast_is t W (by omega)).mono fun _ _=>ansLP_lb);have HIM:=Zd (fun W (hW:Below w.1.size w W)=>(lastPipe_is w.1.size t W ea (by omega) (hV.step hW) hW.size).mono fun _ _=>ansLP_lb);have HSM:=Zd (lpS_small t)
 generalize lpS t=R at HSP HIM HSM
 obtain⟨s,b⟩:=R;dsimp only at HSP HIM HSM;have hn2:(b != b)=false:=by simp
 clear hV;go_enter func6,ntmps6;go_wp2_with fail;refine(HSP.o _).mono ?_;rintro e w1p ⟨⟨soA,scA,eoA,ecA,foA,fcA,uoA,ucA,rfl,hP1⟩,hb10⟩;obtain⟨w1,h1⟩:=nmd (w1p.alloc (.cells #[.int .i64 s.ti,.int .i64 s.it,.bool s.cl,.slice soA s.bx.length scA,.slice eoA s.em.length ecA,.slice foA s.fa.length fcA,.slice uoA s.fu.length ucA] 48));have hb1a:Below w1p.1.size w1p w1:=by rw[h1];exact Zk _ _
 have KA1:Zi (Bx w1 w1p.1.size [.int .i64 s.ti,.int .i64 s.it,.bool s.cl,.slice soA s.bx.length scA,.slice eoA s.em.length ecA,.slice foA s.fa.length fcA,.slice uoA s.fu.length ucA]):=by rw[Zi,h1];exact Bx.new (w:=w1p) [.int .i64 s.ti,.int .i64 s.it,.bool s.cl,.slice soA s.bx.length scA,.slice eoA s.em.length ecA,.slice foA s.fa.length fcA,.slice uoA s.fu.length ucA] 48 rfl
 have hz1:w1p.1.size<w1.1.size:=by rw[h1];simp
 have H1:=Zd h1;have hb1:=hb10.trans (hb1a.mono hb10.size);have B1:=Zd hb1;have S1:=Zd (hP1.later hb1a);have hw1:w.1.size≤w1p.1.size:=hb10.size;clear hb1 hb10 hb1a h1 hP1 HSP;go_wp2_with fail;rw[←H1.o];refine(HIM.o _ B1.o).mono ?_;rintro e w2p ⟨⟨soB,scB,eoB,ecB,foB,fcB,uoB,ucB,rfl,hP2⟩,hb20⟩;obtain⟨w2,h2⟩:=nmd (w2p.alloc (.cells #[.int .i64 s.ti,.int .i64 s.it,.bool s.cl,.slice soB s.bx.length scB,.slice eoB s.em.length ecB,.slice foB s.fa.length fcB,.slice uoB s.fu.length ucB] 48));have hb2a:Below w2p.1.size w2p w2:=by rw[h2];exact Zk _ _
 have KB2:Zi (Bx w2 w2p.1.size [.int .i64 s.ti,.int .i64 s.it,.bool s.cl,.slice soB s.bx.length scB,.slice eoB s.em.length ecB,.slice foB s.fa.length fcB,.slice uoB s.fu.length ucB]):=by rw[Zi,h2];exact Bx.new (w:=w2p) [.int .i64 s.ti,.int .i64 s.it,.bool s.cl,.slice soB s.bx.length scB,.slice eoB s.em.length ecB,.slice foB s.fa.length fcB,.slice uoB s.fu.length ucB] 48 rfl
 have hz2:w2p.1.size<w2.1.size:=by rw[h2];simp
 have H2:=Zd h2;have hb2:=hb20.trans (hb2a.mono hb20.size);have B2:=Zd (B1.o.trans (hb2.mono B1.o.size));have KR2:=Zd (KA1.o.later hb20);have KA2:=Zd (KA1.o.later hb2);have S2:=Zd (S1.o.later hb2);have T2:=Zd (hP2.later hb2a);have h12:w1.1.size≤w2p.1.size:=hb20.size;have N2:Zi (w2p.1.size≤w2.1.size):=hb2a.size;clear hb2 hb20 hb2a h2 hP2 S1 KA1;have kz2:=KR2.o.size;obtain⟨p0,p1,p2,p3,p4,p5,p6⟩:=KR2.o.y7;go_wp2_with fail;rw[←H2.o];refine(Bi s.ti s.it s.cl soB scB s.bx eoB ecB s.em foB fcB s.fa uoB ucB s.fu soA scA eoA ecA foA fcA uoA ucA w2 HSM.o.b HSM.o.e HSM.o.f HSM.o.u T2.o.in S2.o.in).mono ?_;rintro e w3 ⟨rfl,hb3⟩;clear p0 p1 p2 p3 p4 p5 p6;clear KR2;have B3:=Zd (B2.o.trans (hb3.mono B2.o.size));have KA3:=Zd (KA2.o.later hb3);have KB3:=Zd (KB2.o.later hb3);have S3:=Zd (S2.o.later hb3);have T3:=Zd (T2.o.later hb3);have N3:=Zd (Nat.le_trans N2.o hb3.size);clear KA2 KB2 S2 T2 N2 hb3;obtain⟨t0,t1,t2,t3,t4,t5,t6⟩:=KB3.o.y7;go_wp2_with fail;refine(markPipe_any w1.1.size w2p.1.size s.ti s.it s.cl soB scB s.bx eoB ecB s.em foB fcB s.fa uoB ucB s.fu none 0 [] 1 w3 HSM.o.b HSM.o.e HSM.o.f HSM.o.u (by omega) (by omega) N3.o T3.o (.inl rfl) (.inr (.inl rfl))).mono ?_;rintro e w4 ⟨rfl,hT4,_,wx,hbx,hby⟩;clear t0 t1 t2 t3 t4 t5 t6;have hlow:w1.1.size≤wx.1.size:=by have:=N3.o;have:=hbx.size;omega
 have hw1z:=B1.o.size;have B4:=Zd (B3.o.trans ((hbx.mono B3.o.size).trans ((hby.below hlow).mono hw1z)));have KA4:=Zd ((KA3.o.later hbx).betwL hby (by omega));have KB4:=Zd ((KB3.o.later hbx).betwL hby (by omega));have S4:=Zd ((S3.o.later hbx).betwL hby (by omega));have T4:=Zd hT4;clear KA3 KB3 S3 T3 hT4 hbx hby hlow hw1z;have hme:1≤Dn 1 s.bx s.em s.fa s.fu:=mkEnd_leL;obtain⟨mm,hmm⟩:=nmd (Dn 1 s.bx s.em s.fa s.fu);have HMM:=Zd hmm;rw[←hmm]at hme ⊢;clear hmm;have hm0:decide (mm<0)=false:=by simp;omega
 have hmq:(mm != mm)=false:=by simp
 obtain⟨t0,t1,t2,t3,t4,t5,t6⟩:=KB4.o.y7;go_wp2_with fail;refine(Ha s.ti s.it s.cl soB scB s.bx eoB ecB s.em foB fcB s.fa uoB ucB s.fu 1 w4 HSM.o.b HSM.o.e HSM.o.f HSM.o.u (by omega) (by omega) T4.o.in).mono ?_;rintro e w5 ⟨rfl,hb5⟩;clear t0 t1 t2 t3 t4 t5 t6;rw[←HMM.o];have B5:=Zd (B4.o.trans (hb5.mono B4.o.size));have KA5:=Zd (KA4.o.later hb5);have KB5:=Zd (KB4.o.later hb5);have S5:=Zd (S4.o.later hb5);have T5:=Zd (T4.o.later hb5);clear KA4 KB4 S4 T4 hb5;go_wp2_with fail;refine(HIM.o _ B5.o).mono ?_;rintro e w6p ⟨⟨soC,scC,eoC,ecC,foC,fcC,uoC,ucC,rfl,hP6⟩,hb60⟩;obtain⟨w6,h6⟩:=nmd (w6p.alloc (.cells #[.int .i64 s.ti,.int .i64 s.it,.bool s.cl,.slice soC s.bx.length scC,.slice eoC s.em.length ecC,.slice foC s.fa.length fcC,.slice uoC s.fu.length ucC] 48));have hb6a:Below w6p.1.size w6p w6:=by rw[h6];exact Zk _ _
 have KC6:Zi (Bx w6 w6p.1.size [.int .i64 s.ti,.int .i64 s.it,.bool s.cl,.slice soC s.bx.length scC,.slice eoC s.em.length ecC,.slice foC s.fa.length fcC,.slice uoC s.fu.length ucC]):=by rw[Zi,h6];exact Bx.new (w:=w6p) [.int .i64 s.ti,.int .i64 s.it,.bool s.cl,.slice soC s.bx.length scC,.slice eoC s.em.length ecC,.slice foC s.fa.length fcC,.slice uoC s.fu.length ucC] 48 rfl
 have hz6:w6p.1.size<w6.1.size:=by rw[h6];simp
 have H6:=Zd h6;have hb6:=hb60.trans (hb6a.mono hb60.size);have B6:=Zd (B5.o.trans (hb6.mono B5.o.size));have KR6:=Zd (KA5.o.later hb60);have KB6:=Zd (KB5.o.later hb6);have S6:=Zd (S5.o.later hb6);have T6:=Zd (T5.o.later hb6);have U6:=Zd (hP6.later hb6a);clear hb6 hb60 hb6a h6 hP6 KA5 KB5 S5 T5 HIM;have kz6:=KR6.o.size;obtain⟨p0,p1,p2,p3,p4,p5,p6⟩:=KR6.o.y7;go_wp2_with fail;rw[←H6.o];refine(Bi s.ti s.it s.cl soC scC s.bx eoC ecC s.em foC fcC s.fa uoC ucC s.fu soA scA eoA ecA foA fcA uoA ucA w6 HSM.o.b HSM.o.e HSM.o.f HSM.o.u U6.o.in S6.o.in).mono ?_;rintro e w7 ⟨rfl,hb7⟩;clear p0 p1 p2 p3 p4 p5 p6;clear KR6 KC6;have B7:=Zd (B6.o.trans (hb7.mono B6.o.size));have KB7:=Zd (KB6.o.later hb7);have T7:=Zd (T6.o.later hb7);clear KB6 T6 S6 U6 hb7;obtain⟨t0,t1,t2,t3,t4,t5,t6⟩:=KB7.o.y7;go_wp2_with fail;refine(Ha s.ti s.it s.cl soB scB s.bx eoB ecB s.em foB fcB s.fa uoB ucB s.fu 1 w7 HSM.o.b HSM.o.e HSM.o.f HSM.o.u (by omega) (by omega) T7.o.in).mono ?_;rintro e w8 ⟨rfl,hb8⟩;clear t0 t1 t2 t3 t4 t5 t6;rw[←HMM.o];have B8:=Zd (B7.o.trans (hb8.mono B7.o.size));clear hb8;go_wp2;go_ret;exact⟨rfl,B8.o⟩
end Go.Proofs.YtdacedbfnlkghaaGreatDoor