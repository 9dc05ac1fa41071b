/- A node read: the specification's. No conditions but those written. -/
import Derived.Test.YtdacedbfnlkghaaGreatDoorUSsdTpi
namespace Go.Proofs.YtdacedbfnlkghaaGreatDoor
set_option maxHeartbeats 8000000
set_option maxRecDepth 10000
open Go.Proofs.Tryz
open Go.RowKit
theorem Ww{q i:Nat}(W:World)(u:Value):Between q (q+1) W (W.setCell ⟨q,i,none⟩ u):=⟨rfl,rfl,rfl,by simp[World.setCell],fun k _ h=>Below.heap_setCell _ _ _ _ (by dsimp only;omega)⟩
theorem between_below{q n:Nat}{a b c:World}(h:Between q (q+1) a b)(hb:Below n b c)(hn:a.1.size≤n):Between q (q+1) a c:=⟨hb.os.trans h.os,hb.tape.trans h.tape,hb.output.trans h.output,Nat.le_trans h.size hb.size,fun k hk hr=>(hb.block k (by omega)).trans (h.block k hk hr)⟩
theorem Between.cell{q:Nat}{W W':World}(h:Between q (q+1) W W')(b o:Nat)(hb:b<W.1.size)(hne:b≠q):W'.cell? ⟨b,o,none⟩=W.cell? ⟨b,o,none⟩:=World.cell?_of_block (a:=⟨b,o,none⟩) (h.block b hb (by omega))
theorem split3{l:List ByteArray}(h:l.length=3):∃a b c,l=[a,b,c]:=by
 match l,h with
 | [a,b,c],_=>exact⟨a,b,c,rfl⟩
theorem split5{l:List ByteArray}(h:l.length=5):∃a b c d e,l=[a,b,c,d,e]:=by
 match l,h with
 | [a,b,c,d,e],_=>exact⟨a,b,c,d,e,rfl⟩
theorem Lr(s:ByteArray)(w:World)(hs:s.size≤1048576) :
  Calls prog 107 #[.string s] w fun e w'=>AnsRN w (Kf s) e w':=by
 have hB0:=Zk w (.cells #[.string ⟨#[]⟩,.int .i64 0,.int .i64 0,.int .i64 0,.int .i64 0,.slice none 0 0] 27);have X0:=Zd (Bx.new (w:=w) [.string ⟨#[]⟩,.int .i64 0,.int .i64 0,.int .i64 0,.int .i64 0,.slice none 0 0] 27 rfl);have HP:=Zd (Xz s 32 (w.alloc (.cells #[.string ⟨#[]⟩,.int .i64 0,.int .i64 0,.int .i64 0,.int .i64 0,.slice none 0 0] 27)) hs);have HSh:=Zd (Qc 32 hs);obtain⟨R,hR⟩:=nmd (Kf s);rw[←hR];have HR:=Zd hR;have HWS:Zi (∀l,Zw s 32=l→Zw s 32=l):=fun _ h=>h
 obtain⟨ws,hws⟩:∃ws,Zw s 32=ws:=⟨_,rfl⟩;have HE:=Zd hws;rw[hws]at HP HSh;clear hR hws HWS;go_enter func107,ntmps107;go_wp2_with fail;refine HP.o.mono ?_;rintro e w1 ⟨⟨go,qc,rfl,hno,hF⟩,hb1⟩;have X1:=Zd (X0.o.later hb1);have hB1:=hB0.trans (hb1.mono hB0.size);have hs1:=X1.o.size
 by_cases h5:ws.length=5
 case neg =>
  have h5':((ws.length:Int) != 5)=true:=by simp;omega
  have HZ:Zi (R=Wj):=by rw[Zi,HR.o,readR_five (by rw[HE.o];exact h5)]
  clear hF hb1;obtain⟨x0,x1,x2,x3,x4,x5⟩:=X1.o.y6;have y0:=X1.o.f 0 rfl;have y1:=X1.o.f 1 rfl;have y2:=X1.o.f 2 rfl;have y3:=X1.o.f 3 rfl;have y4:=X1.o.f 4 rfl;have y5:=X1.o.f 5 rfl;go_wp2;refine bodyPost_ret (v:=.tuple #[.agg #[.string ⟨#[]⟩,.int .i64 0,.int .i64 0,.int .i64 0,.int .i64 0,.slice none 0 0],.bool false]) (by simp[results,results107,go_sem,x0,x1,x2,x3,x4,x5]) rfl ?_;rw[HZ.o];exact⟨⟨none,0,rfl,fun _=>rfl,.inl rfl⟩,((((((hB1|> bbs)|> bbs)|> bbs)|> bbs)|> bbs)|> bbs)⟩
 obtain⟨s0,s1,s2,s3,s4,rfl⟩:=split5 h5;obtain⟨g,rfl,hg1,hg2,hg3,_⟩:=hF.at (by simp);have hI:=hF.in;have c1:w1.cell? ⟨g,1,none⟩=some (.string s1):=Jf hI 1 (by simp);have c2:w1.cell? ⟨g,2,none⟩=some (.string s2):=Jf hI 2 (by simp);have c3:w1.cell? ⟨g,3,none⟩=some (.string s3):=Jf hI 3 (by simp);have c4:w1.cell? ⟨g,4,none⟩=some (.string s4):=Jf hI 4 (by simp);have q1:s1.size≤1048576:=HSh.o s1 (by simp);have q2:s2.size≤1048576:=HSh.o s2 (by simp);have q3:s3.size≤1048576:=HSh.o s3 (by simp);have q4:s4.size≤1048576:=HSh.o s4 (by simp);have hgw:w.1.size<g:=by
  have h1:(w.alloc (.cells #[.string ⟨#[]⟩,.int .i64 0,.int .i64 0,.int .i64 0,.int .i64 0,.slice none 0 0] 27)).heap.size=w.1.size+1:=by simp
  omega
 have HP2:=Zd (Xz s2 58 w1 q2);have HSh2:=Zd (Qc 58 q2);have hpos2:=Jd s2 58;have e58:((58:UInt8).toNat:Int)=58:=rfl;rw[e58]at hpos2;obtain⟨st,hst⟩:∃st,Zw s2 58=st:=⟨_,rfl⟩;have HE2:=Zd hst;rw[hst]at HP2 HSh2 hpos2;clear hF hI hb1 HP X0 hB0 HSh hst e58 h5 hno hg1 hg2;dsimp only[List.length_cons,List.length_nil];go_wp2_with fail;refine HP2.o.mono ?_;rintro e w2 ⟨⟨go2,qc2,rfl,hno2,hF2⟩,hb2⟩;have X2:=Zd (X1.o.later hb2);have hB2:=hB1.trans (hb2.mono hB1.size)
 by_cases h3:st.length=3
 case neg =>
  have h3':((st.length:Int) != 3)=true:=by simp;omega
  have HZ:Zi (R=Wj):=by
   rw[Zi,HR.o];refine Mz ?_;rw[HE.o]
   show(Jy (Zw s2 58)).2=false
   rw[HE2.o];exact stage_three hpos2 h3
  clear hF2 hb2;obtain⟨x0,x1,x2,x3,x4,x5⟩:=X2.o.y6;have y0:=X2.o.f 0 rfl;have y1:=X2.o.f 1 rfl;have y2:=X2.o.f 2 rfl;have y3:=X2.o.f 3 rfl;have y4:=X2.o.f 4 rfl;have y5:=X2.o.f 5 rfl;go_wp2;refine bodyPost_ret (v:=.tuple #[.agg #[.string ⟨#[]⟩,.int .i64 0,.int .i64 0,.int .i64 0,.int .i64 0,.slice none 0 0],.bool false]) (by simp[results,results107,go_sem,x0,x1,x2,x3,x4,x5]) rfl ?_;rw[HZ.o];exact⟨⟨none,0,rfl,fun _=>rfl,.inl rfl⟩,((((((hB2|> bbs)|> bbs)|> bbs)|> bbs)|> bbs)|> bbs)⟩
 obtain⟨t0,t1,t2,rfl⟩:=split3 h3;obtain⟨g2,rfl,hg21,hg22,hg23,_⟩:=hF2.at (by simp);have hI2:=hF2.in;have hs12:=hb2.size;have d0:w2.cell? ⟨g2,0,none⟩=some (.string t0):=Jf hI2 0 (by simp);have d1:w2.cell? ⟨g2,1,none⟩=some (.string t1):=Jf hI2 1 (by simp);have d2:w2.cell? ⟨g2,2,none⟩=some (.string t2):=Jf hI2 2 (by simp);have p1:t1.size≤1048576:=HSh2.o t1 (by simp);have p2:t2.size≤1048576:=HSh2.o t2 (by simp);have k1:=(hb2.cell (p:=⟨g,1,none⟩) hg3).trans c1;have k3:=(hb2.cell (p:=⟨g,3,none⟩) hg3).trans c3;have k4:=(hb2.cell (p:=⟨g,4,none⟩) hg3).trans c4;have hgw2:g<w2.1.size:=by omega
 clear hF2 hI2 hb2 HP2 X1 hB1 HSh2 c1 c2 c3 c4 h3 hno2 hpos2 hg21 hg22;dsimp only[List.length_cons,List.length_nil];obtain⟨q,hq⟩:=nmd (w2.1.size);have hb3:=Zk w2 (.cells #[.string s1,.int .i64 (0),.int .i64 0,.int .i64 0,.int .i64 0,.slice none 0 0] 27);have N3:=Zd (Bx.new (w:=w2) [.string s1,.int .i64 (0),.int .i64 0,.int .i64 0,.int .i64 0,.slice none 0 0] 27 rfl);have X3:=Zd (X2.o.later hb3);have hB3:=hB2.trans (hb3.mono hB2.size);have l3:=(hb3.cell (p:=⟨g,3,none⟩) hgw2).trans k3;have l4:=(hb3.cell (p:=⟨g,4,none⟩) hgw2).trans k4;have m0:=(hb3.cell (p:=⟨g2,0,none⟩) hg23).trans d0;have m1:=(hb3.cell (p:=⟨g2,1,none⟩) hg23).trans d1;have m2:=(hb3.cell (p:=⟨g2,2,none⟩) hg23).trans d2;obtain⟨w3,hw3⟩:=nmd (w2.alloc (.cells #[.string s1,.int .i64 (0),.int .i64 0,.int .i64 0,.int .i64 0,.slice none 0 0] 27));rw[←hq]at N3;rw[←hw3]at N3 X3 hB3 l3 l4 m0 m1 m2;have HK:=Zd (Mp w3);have H3:=Zd hw3;have HQ:=Zd hq;have hqg:g<q:=by omega
 have hqg2:g2<q:=by omega
 have hqw:w.1.size<q:=by omega
 clear hb3 hw3 hq d0 d1 d2 X2 hB2 k3 k4;go_wp2_with fail;rw[←H3.o,←HQ.o];clear k1 H3 HQ;refine HK.o.mono ?_;rintro e w4 ⟨r,rfl,⟨hr1,hr0,hrc⟩,hb4⟩;have hq3:=N3.o.size;have X4:=Zd (X3.o.later hb4);have N4:=Zd (N3.o.later hb4);have hB4:=hB3.trans (hb4.mono hB3.size);have u3:=(hb4.cell (p:=⟨g,3,none⟩) (by dsimp only;omega)).trans l3;have u4:=(hb4.cell (p:=⟨g,4,none⟩) (by dsimp only;omega)).trans l4;have v0:=(hb4.cell (p:=⟨g2,0,none⟩) (by dsimp only;omega)).trans m0;have v1:=(hb4.cell (p:=⟨g2,1,none⟩) (by dsimp only;omega)).trans m1;have v2:=(hb4.cell (p:=⟨g2,2,none⟩) (by dsimp only;omega)).trans m2;have r1:w4.cell? ⟨r,1,none⟩=some (.string ⟨#[109,97,112]⟩):=hrc 1 (by omega);have r2:w4.cell? ⟨r,2,none⟩=some (.string ⟨#[102,105,108,116,101,114]⟩):=hrc 2 (by omega);have r3:w4.cell? ⟨r,3,none⟩=some (.string ⟨#[101,120,112,97,110,100]⟩):=hrc 3 (by omega);have r4:w4.cell? ⟨r,4,none⟩=some (.string ⟨#[112,111,105,115,111,110]⟩):=hrc 4 (by omega);have r0:w4.cell? ⟨r,0,none⟩=some (.string ⟨#[]⟩):=hrc 0 (by omega);have hqr:q<r:=by omega
 clear hrc hb4 HK X3 N3 hB3 l3 l4 m0 m1 m2;go_wp2
 go_loopw [39] (fun i wr=>∃k:Nat,k≤5∧i=.int .i64 (k:Int)∧Zi (Bx wr q [.string s1,.int .i64 (Qe t0 k),.int .i64 0,.int .i64 0,.int .i64 0,.slice none 0 0])∧Between q (q+1) w4 wr) (fun i _=>5-(intOf i).toNat)
 case atStart=>exact⟨0,by omega,rfl,N4,Between.refl _ _ _⟩
 case round =>
  clear N4;obtain⟨k,hk,rfl,hN,hBe⟩:=hrel
  rcases(show k=0∨k=1∨k=2∨k=3∨k=4∨k=5 from by omega)with rfl|rfl|rfl|rfl|rfl|rfl
  ·have cr:=(hBe.cell r 0 hr1 (by omega)).trans r0;have ct:=(hBe.cell g2 0 (by omega) (by omega)).trans v0;go_wp2;go_roundw
   case rel=>exact⟨1,by omega,by go_num,hN,hBe⟩
   case measure=>simp[intOf] <;> omega
  ·have cr:=(hBe.cell r 1 hr1 (by omega)).trans r1;have ct:=(hBe.cell g2 0 (by omega) (by omega)).trans v0
   by_cases he:t0=Qs ((1:Nat):Int)
   ·have he1:(([109,97,112]:List UInt8)==t0.toList)=true:=by rw[he,Lib.toList_data];rfl
    have n1:=hN.o.c 1 rfl;have nf1:=hN.o.f 1 rfl;have N2:Zi (Bx (wr.setCell ⟨q,1,none⟩ (.int .i64 1)) q [.string s1,.int .i64 (Qe t0 (1+1)),.int .i64 0,.int .i64 0,.int .i64 0,.slice none 0 0]):=by
     have hk1:Qe t0 (1+1)=1:=by rw[Qe,if_pos ⟨by omega,he⟩];rfl
     rw[Zi,hk1];exact hN.o.set 1 (.int .i64 1)
    have hBe2:=hBe.trans (Ww (q:=q) (i:=1) wr (.int .i64 1));clear he;go_wp2;go_roundw
    case rel=>exact⟨1+1,by omega,by go_num,N2,hBe2⟩
    case measure=>simp[intOf] <;> omega
   ·have hm1:t0.toList≠[109,97,112]:=fun e=>he (Ze (by rw[e,Lib.toList_data];rfl))
    have hm2:([109,97,112]:List UInt8)≠t0.toList:=fun e=>hm1 e.symm
    have hm3:(([109,97,112]:List UInt8)==t0.toList)=false:=by rw[beq_eq_false_iff_ne];exact hm2
    have N2:Zi (Bx wr q [.string s1,.int .i64 (Qe t0 (1+1)),.int .i64 0,.int .i64 0,.int .i64 0,.slice none 0 0]):=by
     have hk1:Qe t0 (1+1)=Qe t0 1:=by rw[Qe,if_neg (fun h=>he h.2)]
     rw[Zi,hk1];exact hN.o
    clear he;go_wp2;go_roundw
    case rel=>exact⟨1+1,by omega,by go_num,N2,hBe⟩
    case measure=>simp[intOf] <;> omega
  ·have cr:=(hBe.cell r 2 hr1 (by omega)).trans r2;have ct:=(hBe.cell g2 0 (by omega) (by omega)).trans v0
   by_cases he:t0=Qs ((2:Nat):Int)
   ·have he1:(([102,105,108,116,101,114]:List UInt8)==t0.toList)=true:=by rw[he,Lib.toList_data];rfl
    have n1:=hN.o.c 1 rfl;have nf1:=hN.o.f 1 rfl;have N2:Zi (Bx (wr.setCell ⟨q,1,none⟩ (.int .i64 2)) q [.string s1,.int .i64 (Qe t0 (2+1)),.int .i64 0,.int .i64 0,.int .i64 0,.slice none 0 0]):=by
     have hk1:Qe t0 (2+1)=2:=by rw[Qe,if_pos ⟨by omega,he⟩];rfl
     rw[Zi,hk1];exact hN.o.set 1 (.int .i64 2)
    have hBe2:=hBe.trans (Ww (q:=q) (i:=1) wr (.int .i64 2));clear he;go_wp2;go_roundw
    case rel=>exact⟨2+1,by omega,by go_num,N2,hBe2⟩
    case measure=>simp[intOf] <;> omega
   ·have hm1:t0.toList≠[102,105,108,116,101,114]:=fun e=>he (Ze (by rw[e,Lib.toList_data];rfl))
    have hm2:([102,105,108,116,101,114]:List UInt8)≠t0.toList:=fun e=>hm1 e.symm
    have hm3:(([102,105,108,116,101,114]:List UInt8)==t0.toList)=false:=by rw[beq_eq_false_iff_ne];exact hm2
    have N2:Zi (Bx wr q [.string s1,.int .i64 (Qe t0 (2+1)),.int .i64 0,.int .i64 0,.int .i64 0,.slice none 0 0]):=by
     have hk1:Qe t0 (2+1)=Qe t0 2:=by rw[Qe,if_neg (fun h=>he h.2)]
     rw[Zi,hk1];exact hN.o
    clear he;go_wp2;go_roundw
    case rel=>exact⟨2+1,by omega,by go_num,N2,hBe⟩
    case measure=>simp[intOf] <;> omega
  ·have cr:=(hBe.cell r 3 hr1 (by omega)).trans r3;have ct:=(hBe.cell g2 0 (by omega) (by omega)).trans v0
   by_cases he:t0=Qs ((3:Nat):Int)
   ·have he1:(([101,120,112,97,110,100]:List UInt8)==t0.toList)=true:=by rw[he,Lib.toList_data];rfl
    have n1:=hN.o.c 1 rfl;have nf1:=hN.o.f 1 rfl;have N2:Zi (Bx (wr.setCell ⟨q,1,none⟩ (.int .i64 3)) q [.string s1,.int .i64 (Qe t0 (3+1)),.int .i64 0,.int .i64 0,.int .i64 0,.slice none 0 0]):=by
     have hk1:Qe t0 (3+1)=3:=by rw[Qe,if_pos ⟨by omega,he⟩];rfl
     rw[Zi,hk1];exact hN.o.set 1 (.int .i64 3)
    have hBe2:=hBe.trans (Ww (q:=q) (i:=1) wr (.int .i64 3));clear he;go_wp2;go_roundw
    case rel=>exact⟨3+1,by omega,by go_num,N2,hBe2⟩
    case measure=>simp[intOf] <;> omega
   ·have hm1:t0.toList≠[101,120,112,97,110,100]:=fun e=>he (Ze (by rw[e,Lib.toList_data];rfl))
    have hm2:([101,120,112,97,110,100]:List UInt8)≠t0.toList:=fun e=>hm1 e.symm
    have hm3:(([101,120,112,97,110,100]:List UInt8)==t0.toList)=false:=by rw[beq_eq_false_iff_ne];exact hm2
    have N2:Zi (Bx wr q [.string s1,.int .i64 (Qe t0 (3+1)),.int .i64 0,.int .i64 0,.int .i64 0,.slice none 0 0]):=by
     have hk1:Qe t0 (3+1)=Qe t0 3:=by rw[Qe,if_neg (fun h=>he h.2)]
     rw[Zi,hk1];exact hN.o
    clear he;go_wp2;go_roundw
    case rel=>exact⟨3+1,by omega,by go_num,N2,hBe⟩
    case measure=>simp[intOf] <;> omega
  ·have cr:=(hBe.cell r 4 hr1 (by omega)).trans r4;have ct:=(hBe.cell g2 0 (by omega) (by omega)).trans v0
   by_cases he:t0=Qs ((4:Nat):Int)
   ·have he1:(([112,111,105,115,111,110]:List UInt8)==t0.toList)=true:=by rw[he,Lib.toList_data];rfl
    have n1:=hN.o.c 1 rfl;have nf1:=hN.o.f 1 rfl;have N2:Zi (Bx (wr.setCell ⟨q,1,none⟩ (.int .i64 4)) q [.string s1,.int .i64 (Qe t0 (4+1)),.int .i64 0,.int .i64 0,.int .i64 0,.slice none 0 0]):=by
     have hk1:Qe t0 (4+1)=4:=by rw[Qe,if_pos ⟨by omega,he⟩];rfl
     rw[Zi,hk1];exact hN.o.set 1 (.int .i64 4)
    have hBe2:=hBe.trans (Ww (q:=q) (i:=1) wr (.int .i64 4));clear he;go_wp2;go_roundw
    case rel=>exact⟨4+1,by omega,by go_num,N2,hBe2⟩
    case measure=>simp[intOf] <;> omega
   ·have hm1:t0.toList≠[112,111,105,115,111,110]:=fun e=>he (Ze (by rw[e,Lib.toList_data];rfl))
    have hm2:([112,111,105,115,111,110]:List UInt8)≠t0.toList:=fun e=>hm1 e.symm
    have hm3:(([112,111,105,115,111,110]:List UInt8)==t0.toList)=false:=by rw[beq_eq_false_iff_ne];exact hm2
    have N2:Zi (Bx wr q [.string s1,.int .i64 (Qe t0 (4+1)),.int .i64 0,.int .i64 0,.int .i64 0,.slice none 0 0]):=by
     have hk1:Qe t0 (4+1)=Qe t0 4:=by rw[Qe,if_neg (fun h=>he h.2)]
     rw[Zi,hk1];exact hN.o
    clear he;go_wp2;go_roundw
    case rel=>exact⟨4+1,by omega,by go_num,N2,hBe⟩
    case measure=>simp[intOf] <;> omega
  ·have X5:=Zd (X4.o.between hBe (.inl hqw));have hB5:Below w.1.size w wr:=hB4.trans (hBe.below (by omega)|>.mono (by omega));have a3:=(hBe.cell g 3 (by omega) (by omega)).trans u3;have a4:=(hBe.cell g 4 (by omega) (by omega)).trans u4;have b1:=(hBe.cell g2 1 (by omega) (by omega)).trans v1;have b2:=(hBe.cell g2 2 (by omega) (by omega)).trans v2;have hs5:=hBe.size;obtain⟨kd,hkd⟩:=nmd (Qe t0 5);rw[←hkd]at hN;have HKD:=Zd hkd;have HM1:=Zd (Ve t1 wr p1);have HM2:=Zd (Ve t2 wr p2);have HM3:=Zd (Ve s3 wr q3);clear hkd X4 hB4 u3 u4 v0 v1 v2 r0 r1 r2 r3 r4 hBe;have HZA:Zi (Wn t1.data.toList=none∨Wn t2.data.toList=none→R=Wj):=fun h=>by
    rw[HR.o];refine Mz ?_;rw[HE.o]
    show(Jy (Zw s2 58)).2=false
    rw[HE2.o];exact stage_num h
   have HZB:Zi (Wn s3.data.toList=none→R=Wj):=fun h=>by
    rw[HR.o];refine readR_num ?_;rw[HE.o]
    show(Tf s3).2=false
    rw[Xr h]
   have HN1:Zi ((∃a,Wn t1.data.toList=some a∧Tf t1=(a,true))∨(Wn t1.data.toList=none∧Tf t1=(0,false))):=by
    cases h:Wn t1.data.toList with
    |none=>exact .inr ⟨rfl,Xr h⟩
    |some a=>exact .inl ⟨a,rfl,Vx h⟩
   have HN2:Zi ((∃a,Wn t2.data.toList=some a∧Tf t2=(a,true))∨(Wn t2.data.toList=none∧Tf t2=(0,false))):=by
    cases h:Wn t2.data.toList with
    |none=>exact .inr ⟨rfl,Xr h⟩
    |some a=>exact .inl ⟨a,rfl,Vx h⟩
   have HN3:Zi ((∃a,Wn s3.data.toList=some a∧Tf s3=(a,true))∨(Wn s3.data.toList=none∧Tf s3=(0,false))):=by
    cases h:Wn s3.data.toList with
    |none=>exact .inr ⟨rfl,Xr h⟩
    |some a=>exact .inl ⟨a,rfl,Vx h⟩
   generalize Tf t1=N1 at HM1 HN1
   generalize Tf t2=N2 at HM2 HN2
   generalize Tf s3=N3 at HM3 HN3
   obtain⟨a,y1⟩:=N1;obtain⟨b,y2⟩:=N2;obtain⟨cp,y3⟩:=N3;dsimp only at HM1 HM2 HM3;go_wp2_with fail;refine HM1.o.mono ?_;rintro e wq ⟨rfl,hwq⟩;rw[hwq];clear hwq wq
   go_wp2_with fail;refine HM2.o.mono ?_;rintro e wq ⟨rfl,hwq⟩;rw[hwq];clear hwq wq
   go_wp2_with fail;refine HM3.o.mono ?_;rintro e wq ⟨rfl,hwq⟩;rw[hwq];clear hwq wq HM1 HM2 HM3
   rcases HN1.o with⟨a',n1,e1⟩|⟨n1,e1⟩
   case inr =>
    obtain⟨rfl,rfl⟩:a=0∧y1=false:=by simpa using e1
    have HZ:=Zd (HZA.o (.inl n1));clear n1 e1;obtain⟨x0,x1,x2,x3,x4,x5⟩:=X5.o.y6;have y0:=X5.o.f 0 rfl;have y1:=X5.o.f 1 rfl;have y2:=X5.o.f 2 rfl;have y3:=X5.o.f 3 rfl;have y4:=X5.o.f 4 rfl;have y5:=X5.o.f 5 rfl;go_wp2;refine bodyPost_ret (v:=.tuple #[.agg #[.string ⟨#[]⟩,.int .i64 0,.int .i64 0,.int .i64 0,.int .i64 0,.slice none 0 0],.bool false]) (by simp[results,results107,go_sem,x0,x1,x2,x3,x4,x5]) rfl ?_;rw[HZ.o];exact⟨⟨none,0,rfl,fun _=>rfl,.inl rfl⟩,((((((hB5|> bbs)|> bbs)|> bbs)|> bbs)|> bbs)|> bbs)⟩
   obtain⟨rfl,rfl⟩:a=a'∧y1=true:=by simpa using e1
   rcases HN2.o with⟨b',n2,e2⟩|⟨n2,e2⟩
   case inr =>
    obtain⟨rfl,rfl⟩:b=0∧y2=false:=by simpa using e2
    have HZ:=Zd (HZA.o (.inr n2));clear n1 e1 n2 e2;obtain⟨x0,x1,x2,x3,x4,x5⟩:=X5.o.y6;have y0:=X5.o.f 0 rfl;have y1:=X5.o.f 1 rfl;have y2:=X5.o.f 2 rfl;have y3:=X5.o.f 3 rfl;have y4:=X5.o.f 4 rfl;have y5:=X5.o.f 5 rfl;go_wp2;refine bodyPost_ret (v:=.tuple #[.agg #[.string ⟨#[]⟩,.int .i64 0,.int .i64 0,.int .i64 0,.int .i64 0,.slice none 0 0],.bool false]) (by simp[results,results107,go_sem,x0,x1,x2,x3,x4,x5]) rfl ?_;rw[HZ.o];exact⟨⟨none,0,rfl,fun _=>rfl,.inl rfl⟩,((((((hB5|> bbs)|> bbs)|> bbs)|> bbs)|> bbs)|> bbs)⟩
   obtain⟨rfl,rfl⟩:b=b'∧y2=true:=by simpa using e2
   rcases HN3.o with⟨cp',n3,e3⟩|⟨n3,e3⟩
   case inr =>
    obtain⟨rfl,rfl⟩:cp=0∧y3=false:=by simpa using e3
    have HZ:=Zd (HZB.o n3);clear n1 e1 n2 e2 n3 e3;obtain⟨x0,x1,x2,x3,x4,x5⟩:=X5.o.y6;have y0:=X5.o.f 0 rfl;have y1:=X5.o.f 1 rfl;have y2:=X5.o.f 2 rfl;have y3:=X5.o.f 3 rfl;have y4:=X5.o.f 4 rfl;have y5:=X5.o.f 5 rfl;go_wp2;refine bodyPost_ret (v:=.tuple #[.agg #[.string ⟨#[]⟩,.int .i64 0,.int .i64 0,.int .i64 0,.int .i64 0,.slice none 0 0],.bool false]) (by simp[results,results107,go_sem,x0,x1,x2,x3,x4,x5]) rfl ?_;rw[HZ.o];exact⟨⟨none,0,rfl,fun _=>rfl,.inl rfl⟩,((((((hB5|> bbs)|> bbs)|> bbs)|> bbs)|> bbs)|> bbs)⟩
   obtain⟨rfl,rfl⟩:cp=cp'∧y3=true:=by simpa using e3
   have HA:=Zd n1;have HB:=Zd n2;have HC:=Zd n3;clear n1 e1 n2 e2 n3 e3 HN1 HN2 HN3 HZA HZB;have o1:=hN.o.c 1 rfl;have o2:=hN.o.c 2 rfl;have o3:=hN.o.c 3 rfl;have o4:=hN.o.c 4 rfl;have of2:=hN.o.f 2 rfl;have of3:=hN.o.f 3 rfl;have of4:=hN.o.f 4 rfl;have N6:=Zd (((hN.o.set 2 (.int .i64 a)).set 3 (.int .i64 b)).set 4 (.int .i64 cp));have X6:=Zd (((X5.o.other (a:=⟨q,2,none⟩) (by dsimp only;omega) (.int .i64 a)).other (a:=⟨q,3,none⟩) (by dsimp only;omega) (.int .i64 b)).other (a:=⟨q,4,none⟩) (by dsimp only;omega) (.int .i64 cp));have hB6:=((hB5.setCell (p:=⟨q,2,none⟩) (by dsimp only;omega) (.int .i64 a)).setCell (p:=⟨q,3,none⟩) (by dsimp only;omega) (.int .i64 b)).setCell (p:=⟨q,4,none⟩) (by dsimp only;omega) (.int .i64 cp);have b6:(((wr.setCell ⟨q,2,none⟩ (.int .i64 a)).setCell ⟨q,3,none⟩ (.int .i64 b)).setCell ⟨q,4,none⟩ (.int .i64 cp)).cell? ⟨g,4,none⟩=some (.string s4):=by
    rw[World.cell?_setCell_other _ _ _ _ (by simp <;> omega),World.cell?_setCell_other _ _ _ _ (by simp <;> omega),World.cell?_setCell_other _ _ _ _ (by simp <;> omega)];exact a4
   have hz6:(((wr.setCell ⟨q,2,none⟩ (.int .i64 a)).setCell ⟨q,3,none⟩ (.int .i64 b)).setCell ⟨q,4,none⟩ (.int .i64 cp)).heap.size=wr.1.size:=by simp[World.setCell]
   go_upto_region 22 with fail
   obtain⟨w6,hw6⟩:=nmd ((((wr.setCell ⟨q,2,none⟩ (.int .i64 a)).setCell ⟨q,3,none⟩ (.int .i64 b)).setCell ⟨q,4,none⟩ (.int .i64 cp)));rw[←hw6]at N6 X6 hB6 b6 hz6 ⊢;have hs6:w4.1.size≤w6.1.size:=by omega
   clear hw6 o1 o2 o3 o4 of2 of3 of4 hN X5 hB5 a3 a4 b1 b2 hz6;have HRR:=Zd (fun nx (hn:Wo s4=(nx,true))=>readR_as HE.o HE2.o HA.o HB.o HC.o hn);have HZN:Zi ((Wo s4).2=false→R=Wj):=fun h=>by
    rw[HR.o];refine readR_next ?_;rw[HE.o];exact h
   rw[←HKD.o,←HR.o]at HRR;clear HA HB HC HKD HE HE2 HR
   by_cases hd:s4=⟨#[45]⟩
   ·subst hd;have HNX:Zi (Wo ⟨#[45]⟩=([],true)):=by rw[Zi,Wo,if_pos rfl]
    have HR3:=Zd (HRR.o _ HNX.o);clear HRR HZN HNX;have hno5:(none:Option Addr)=none→0=0:=fun _=>rfl
    obtain⟨nx,hnx⟩:∃nx:List Int,nx=[]:=⟨_,rfl⟩;obtain⟨no,hno⟩:∃no:Option Addr,no=none:=⟨_,rfl⟩;obtain⟨nc,hnc⟩:∃nc:Nat,nc=0:=⟨_,rfl⟩;have F6:Zi (kI.Fresh (w.1.size+1) w6.1.size w6 no nc nx):=by rw[hnx];exact .inl rfl
    have hl6:nx.length≤4194304:=by rw[hnx];simp
    have N7:Zi (Bx w6 q [.string s1,.int .i64 kd,.int .i64 a,.int .i64 b,.int .i64 cp,.slice no nx.length nc]):=by rw[hno,hnx,hnc];exact N6.o
    rw[←hnx]at HR3;have hno6:no=none→nc=0:=fun _=>hnc
    clear hno5 N6 hno hnx hnc;obtain⟨n0,n1,n2,n3,n4,n5⟩:=N7.o.y6;have HG:=Zd (Cx s1 kd a b cp no nc nx w6 (by omega) hl6 F6.o.in);go_wp2_with fail;refine HG.o.mono ?_;rintro e w8 ⟨rfl,hb8⟩;have X9:=Zd (X6.o.later hb8);have N9:=Zd (N7.o.later hb8);have F9:=Zd (F6.o.later hb8);have hB9:=hB6.trans (hb8.mono hB6.size);clear hb8 n0 n1 n2 n3 n4 n5 HG
    cases hh:hasT s1 kd a b cp nx
    ·have HZ:Zi (R=Wj):=by rw[Zi,HR3.o,if_neg (fun h=>by rw[hh]at h;cases h.1)]
     obtain⟨x0,x1,x2,x3,x4,x5⟩:=X9.o.y6;have y0:=X9.o.f 0 rfl;have y1:=X9.o.f 1 rfl;have y2:=X9.o.f 2 rfl;have y3:=X9.o.f 3 rfl;have y4:=X9.o.f 4 rfl;have y5:=X9.o.f 5 rfl;go_wp2;refine bodyPost_ret (v:=.tuple #[.agg #[.string ⟨#[]⟩,.int .i64 0,.int .i64 0,.int .i64 0,.int .i64 0,.slice none 0 0],.bool false]) (by simp[results,results107,go_sem,x0,x1,x2,x3,x4,x5]) rfl ?_;rw[HZ.o];exact⟨⟨none,0,rfl,fun _=>rfl,.inl rfl⟩,((((((hB9|> bbs)|> bbs)|> bbs)|> bbs)|> bbs)|> bbs)⟩
    have HL:=Zd (Ck s1 kd a b cp no nc nx w8 (Lv hh) F9.o.in);obtain⟨n0,n1,n2,n3,n4,n5⟩:=N9.o.y6;go_wp2_with fail;refine HL.o.mono ?_;rintro e w10 ⟨rfl,hb10⟩;have X10:=Zd (X9.o.later hb10);have N10:=Zd (N9.o.later hb10);have F10:=Zd (F9.o.later hb10);have hB10:=hB9.trans (hb10.mono hB9.size);clear hb10 n0 n1 n2 n3 n4 n5 HL X9 N9 F9 hB9
    by_cases hnb:Gk s1 kd a b cp nx=s
    ·have HY:Zi (R=((s1,kd,a,b,cp,nx),true)):=by rw[Zi,HR3.o,if_pos ⟨hh,hnb⟩]
     rw[hnb];have hne:(s.toList != s.toList)=false:=by simp
     clear hh hnb HR3;obtain⟨n0,n1,n2,n3,n4,n5⟩:=N10.o.y6;obtain⟨x0,x1,x2,x3,x4,x5⟩:=X10.o.y6;have y0:=X10.o.f 0 rfl;have y1:=X10.o.f 1 rfl;have y2:=X10.o.f 2 rfl;have y3:=X10.o.f 3 rfl;have y4:=X10.o.f 4 rfl;have y5:=X10.o.f 5 rfl;go_wp2;refine bodyPost_ret (v:=.tuple #[.agg #[.string s1,.int .i64 kd,.int .i64 a,.int .i64 b,.int .i64 cp,.slice no nx.length nc],.bool true]) (by simp[results,results107,go_sem,x0,x1,x2,x3,x4,x5]) rfl ?_;rw[HY.o];refine⟨⟨no,nc,rfl,hno6,?_⟩,((((((hB10|> bbs)|> bbs)|> bbs)|> bbs)|> bbs)|> bbs)⟩;exact(((((((F10.o.setBelow (a:=⟨w.1.size,0,none⟩) (by dsimp only;omega) _).setBelow (a:=⟨w.1.size,1,none⟩) (by dsimp only;omega) _).setBelow (a:=⟨w.1.size,2,none⟩) (by dsimp only;omega) _).setBelow (a:=⟨w.1.size,3,none⟩) (by dsimp only;omega) _).setBelow (a:=⟨w.1.size,4,none⟩) (by dsimp only;omega) _).setBelow (a:=⟨w.1.size,5,none⟩) (by dsimp only;omega) _).low (Nat.le_refl _)).wide (by omega) (Nat.le_refl _)
    ·have HZ:Zi (R=Wj):=by rw[Zi,HR3.o,if_neg (fun h=>hnb h.2)]
     have hm1:(Gk s1 kd a b cp nx).toList≠s.toList:=fun e=>hnb (Ze e)
     have hm2:((Gk s1 kd a b cp nx).toList != s.toList)=true:=by simpa using hm1
     have hm3:((Gk s1 kd a b cp nx).toList==s.toList)=false:=by simpa using hm1
     clear hnb hh
     generalize Gk s1 kd a b cp nx=tt at hm1 hm2 hm3 ⊢
     obtain⟨x0,x1,x2,x3,x4,x5⟩:=X10.o.y6;have y0:=X10.o.f 0 rfl;have y1:=X10.o.f 1 rfl;have y2:=X10.o.f 2 rfl;have y3:=X10.o.f 3 rfl;have y4:=X10.o.f 4 rfl;have y5:=X10.o.f 5 rfl;go_wp2;refine bodyPost_ret (v:=.tuple #[.agg #[.string ⟨#[]⟩,.int .i64 0,.int .i64 0,.int .i64 0,.int .i64 0,.slice none 0 0],.bool false]) (by simp[results,results107,go_sem,x0,x1,x2,x3,x4,x5]) rfl ?_;rw[HZ.o];exact⟨⟨none,0,rfl,fun _=>rfl,.inl rfl⟩,((((((hB10|> bbs)|> bbs)|> bbs)|> bbs)|> bbs)|> bbs)⟩
   ·have hm1:s4.toList≠[45]:=fun e=>hd (Ze (by rw[e,Lib.toList_data]))
    have hm2:(s4.toList != [45])=true:=by simpa using hm1
    have hm3:(s4.toList==[45])=false:=by simpa using hm1
    have HNR:Zi (Wo s4=He (Zw s4 44)):=by rw[Zi,Wo,if_neg hd]
    have HP4:=Zd (Xz s4 44 w6 q4);have HS4:=Zd (Qc 44 q4);have hL4:=Qr s4 44;rw[HNR.o]at HZN HRR
    generalize Zw s4 44=ps at HP4 HS4 hL4 HZN HRR
    clear hd HNR;go_wp2_with fail;refine HP4.o.mono ?_;rintro e w7 ⟨⟨go4,qc4,rfl,hno4,hF4⟩,hb7⟩;have X7:=Zd (X6.o.later hb7);have N7:=Zd (N6.o.later hb7);have hB7:=hB6.trans (hb7.mono hB6.size);have hs7:=hb7.size;have HI4:=Zd hF4.in;have hFlo:Zi (∀b off,go4=some ⟨b,off,none⟩→0<ps.length→q<b):=fun b off e hp=>by
     obtain⟨gg,eg,h1,_,_,_⟩:=hF4.at hp;rw[eg]at e
     cases e
     have:=N6.o.size
     omega
    clear hF4 hb7 HP4 X6 N6 hB6 b6 hm1 hm2 hm3 hno4;go_wp2
    go_loopw [106] (fun i wr=>∃(k:Nat)(v:Value)(acc:List Int),k≤ps.length∧acc.length≤k∧i=.int .i64 (k:Int)∧Zi (Jm (ps.take k)=some acc)∧Zi (Bx wr q [.string s1,.int .i64 kd,.int .i64 a,.int .i64 b,.int .i64 cp,v])∧Zi (kI.Own w7.1.size wr v acc)∧Between q (q+1) w7 wr) (fun i _=>ps.length-(intOf i).toNat)
    case atStart=>exact⟨0,.slice none 0 0,[],Nat.zero_le _,Nat.le_refl _,rfl,rfl,N7,Kind.Own.nil _ _ _,Between.refl _ _ _⟩
    case round =>
     clear N7;obtain⟨k,v,acc,hk,hal,rfl,hNum,hN,hO,hBe⟩:=hrel;have hs8:=hBe.size;have X8:=Zd (X7.o.between hBe (.inl hqw));have hB8:Below w.1.size w wr:=hB7.trans (hBe.below (by omega)|>.mono (by omega))
     by_cases hlt:k<ps.length
     ·obtain⟨bb,off,rfl,hbb,hcc⟩:=Ks HI4.o hlt;have hqb:=hFlo.o bb off rfl (by omega);have ck:=(hBe.cell bb (off+k) hbb (by omega)).trans (hcc k hlt);have hmem:=Zl hlt;have htk:=Zy hlt;have hnum:=Ve (el ps k) wr (HS4.o _ hmem)
      cases hn:Wn (el ps k).data.toList with
      |none =>
       have HZ:=Zd (HZN.o (by rw[Rj (Vs hmem hn)]));rw[Xr hn]at hnum;dsimp only at hnum;have HM:=Zd hnum
       generalize el ps k=x at ck HM
       clear hnum hcc hmem htk hn hO hN hNum;go_wp2_with fail;refine HM.o.mono ?_;rintro e wq ⟨rfl,hwq⟩;rw[hwq];clear hwq wq HM
       obtain⟨x0,x1,x2,x3,x4,x5⟩:=X8.o.y6;have y0:=X8.o.f 0 rfl;have y1:=X8.o.f 1 rfl;have y2:=X8.o.f 2 rfl;have y3:=X8.o.f 3 rfl;have y4:=X8.o.f 4 rfl;have y5:=X8.o.f 5 rfl;go_wp2;refine bodyPost_ret (v:=.tuple #[.agg #[.string ⟨#[]⟩,.int .i64 0,.int .i64 0,.int .i64 0,.int .i64 0,.slice none 0 0],.bool false]) (by simp[results,results107,go_sem,x0,x1,x2,x3,x4,x5]) rfl ?_;rw[HZ.o];exact⟨⟨none,0,rfl,fun _=>rfl,.inl rfl⟩,((((((hB8|> bbs)|> bbs)|> bbs)|> bbs)|> bbs)|> bbs)⟩
      |some n =>
       have HN2:Zi (Jm (ps.take (k+1))=some (acc++[n])):=by rw[Zi,htk];exact Gu _ _ _ _ hNum.o hn
       rw[Vx hn]at hnum;dsimp only at hnum;have HM:=Zd hnum
       generalize el ps k=x at ck HM
       clear hnum hcc hmem htk hn hNum;go_wp2_with fail;refine HM.o.mono ?_;rintro e wq ⟨rfl,hwq⟩;rw[hwq];clear hwq wq HM
       obtain⟨vo,vc,rfl,hvn,_⟩:=hO.o.fresh;have j5:=hN.o.c 5 rfl;have jf5:=hN.o.f 5 rfl;have HAO:Zi (kI.Own w7.1.size (wr.alloc (.cells #[.int .i64 n] 3)) (.slice vo acc.length vc) acc):=hO.o.below (Zk _ _);have HNN:Zi (kI.In (wr.1.size+1) (wr.alloc (.cells #[.int .i64 n] 3)) (some ⟨wr.1.size,0,none⟩) [n]):=Kc (by omega) (by simp);have NA:=Zd (hN.o.alloc (.cells #[.int .i64 n] 3));have BA:=hBe.trans (Between.of_below (Zk wr (.cells #[.int .i64 n] 3)));have hll:acc.length+1≤4194304:=by omega
       have hzA:(wr.alloc (.cells #[.int .i64 n] 3)).heap.size=wr.1.size+1:=by simp
       have hqs:=hN.o.size;have hq7:q<w7.1.size:=by omega
       clear hO hN hBe;go_wp2_with (at_builtin;refine Kind.app Vq (wr.alloc (.cells #[.int .i64 n] 3)) rfl (.tmp 119) (.tmp 121) rfl w7.1.size (.slice vo acc.length vc) acc rfl HAO.o (by simp;omega) (some ⟨wr.1.size,0,none⟩) [n] 1 1 rfl rfl (by simp) _ HNN.o hll ?_;intro v' w' hO' hB' hG' hn';obtain⟨vo',vc',rfl,hvn',_⟩:=hO'.fresh;have HO':=Zd hO';have NB:=Zd (NA.o.below hB' hq7);have BB:=between_below BA hB' (Nat.le_refl _);have i5:=NB.o.c 5 rfl;have if5:=NB.o.f 5 rfl;clear hO' hB' hG' hn');have hle:(acc++[n]).length=acc.length+1:=by simp
       rw[hle]at HO';have NC:=Zd (NB.o.set 5 (.slice vo' (acc.length+1) vc'));have HOC:Zi (kI.Own w7.1.size (w'.setCell ⟨q,5,none⟩ (.slice vo' (acc.length+1) vc')) (.slice vo' (acc.length+1) vc') (acc++[n])):=HO'.o.setBelow (a:=⟨q,5,none⟩) hq7 _;have BC:=BB.trans (Ww (q:=q) (i:=5) w' (.slice vo' (acc.length+1) vc'));clear i5 if5 HO' NB BB;go_roundw
       case rel=>exact⟨k+1,_,acc++[n],by omega,by simp;omega,by go_num,HN2,NC,HOC,BC⟩
       case measure=>simp[intOf];omega
     ·obtain rfl:k=ps.length:=by omega
      have hN2:=hNum.o;rw[List.take_length]at hN2;have HR3:=Zd (HRR.o acc (Gz hN2));obtain⟨no,nc,rfl,hno6,hFF⟩:=hO.o.fresh;obtain⟨nx,hnx⟩:=nmd (acc);rw[←hnx]at hFF HR3 hN;have hl6:nx.length≤4194304:=by rw[hnx];omega
      obtain⟨w6',hw6'⟩:=nmd (wr);have F6:=Zd (hFF.wide (lo':=w.1.size+1) (by omega) (Nat.le_refl _));clear hNum hN2 hnx hFF hO hBe HRR HZN hw6' w6';obtain⟨n0,n1,n2,n3,n4,n5⟩:=hN.o.y6;have HG:=Zd (Cx s1 kd a b cp no nc nx wr (by omega) hl6 F6.o.in);go_wp2_with fail;refine HG.o.mono ?_;rintro e w8 ⟨rfl,hb8⟩;have X9:=Zd (X8.o.later hb8);have N9:=Zd (hN.o.later hb8);have F9:=Zd (F6.o.later hb8);have hB9:=hB8.trans (hb8.mono hB8.size);clear hb8 n0 n1 n2 n3 n4 n5 HG
      cases hh:hasT s1 kd a b cp nx
      ·have HZ:Zi (R=Wj):=by rw[Zi,HR3.o,if_neg (fun h=>by rw[hh]at h;cases h.1)]
       obtain⟨x0,x1,x2,x3,x4,x5⟩:=X9.o.y6;have y0:=X9.o.f 0 rfl;have y1:=X9.o.f 1 rfl;have y2:=X9.o.f 2 rfl;have y3:=X9.o.f 3 rfl;have y4:=X9.o.f 4 rfl;have y5:=X9.o.f 5 rfl;go_wp2;refine bodyPost_ret (v:=.tuple #[.agg #[.string ⟨#[]⟩,.int .i64 0,.int .i64 0,.int .i64 0,.int .i64 0,.slice none 0 0],.bool false]) (by simp[results,results107,go_sem,x0,x1,x2,x3,x4,x5]) rfl ?_;rw[HZ.o];exact⟨⟨none,0,rfl,fun _=>rfl,.inl rfl⟩,((((((hB9|> bbs)|> bbs)|> bbs)|> bbs)|> bbs)|> bbs)⟩
      have HL:=Zd (Ck s1 kd a b cp no nc nx w8 (Lv hh) F9.o.in);obtain⟨n0,n1,n2,n3,n4,n5⟩:=N9.o.y6;go_wp2_with fail;refine HL.o.mono ?_;rintro e w10 ⟨rfl,hb10⟩;have X10:=Zd (X9.o.later hb10);have N10:=Zd (N9.o.later hb10);have F10:=Zd (F9.o.later hb10);have hB10:=hB9.trans (hb10.mono hB9.size);clear hb10 n0 n1 n2 n3 n4 n5 HL X9 N9 F9 hB9
      by_cases hnb:Gk s1 kd a b cp nx=s
      ·have HY:Zi (R=((s1,kd,a,b,cp,nx),true)):=by rw[Zi,HR3.o,if_pos ⟨hh,hnb⟩]
       rw[hnb];have hne:(s.toList != s.toList)=false:=by simp
       clear hh hnb HR3;obtain⟨n0,n1,n2,n3,n4,n5⟩:=N10.o.y6;obtain⟨x0,x1,x2,x3,x4,x5⟩:=X10.o.y6;have y0:=X10.o.f 0 rfl;have y1:=X10.o.f 1 rfl;have y2:=X10.o.f 2 rfl;have y3:=X10.o.f 3 rfl;have y4:=X10.o.f 4 rfl;have y5:=X10.o.f 5 rfl;go_wp2;refine bodyPost_ret (v:=.tuple #[.agg #[.string s1,.int .i64 kd,.int .i64 a,.int .i64 b,.int .i64 cp,.slice no nx.length nc],.bool true]) (by simp[results,results107,go_sem,x0,x1,x2,x3,x4,x5]) rfl ?_;rw[HY.o];refine⟨⟨no,nc,rfl,hno6,?_⟩,((((((hB10|> bbs)|> bbs)|> bbs)|> bbs)|> bbs)|> bbs)⟩;exact(((((((F10.o.setBelow (a:=⟨w.1.size,0,none⟩) (by dsimp only;omega) _).setBelow (a:=⟨w.1.size,1,none⟩) (by dsimp only;omega) _).setBelow (a:=⟨w.1.size,2,none⟩) (by dsimp only;omega) _).setBelow (a:=⟨w.1.size,3,none⟩) (by dsimp only;omega) _).setBelow (a:=⟨w.1.size,4,none⟩) (by dsimp only;omega) _).setBelow (a:=⟨w.1.size,5,none⟩) (by dsimp only;omega) _).low (Nat.le_refl _)).wide (by omega) (Nat.le_refl _)
      ·have HZ:Zi (R=Wj):=by rw[Zi,HR3.o,if_neg (fun h=>hnb h.2)]
       have hm1:(Gk s1 kd a b cp nx).toList≠s.toList:=fun e=>hnb (Ze e)
       have hm2:((Gk s1 kd a b cp nx).toList != s.toList)=true:=by simpa using hm1
       have hm3:((Gk s1 kd a b cp nx).toList==s.toList)=false:=by simpa using hm1
       clear hnb hh
       generalize Gk s1 kd a b cp nx=tt at hm1 hm2 hm3 ⊢
       obtain⟨x0,x1,x2,x3,x4,x5⟩:=X10.o.y6;have y0:=X10.o.f 0 rfl;have y1:=X10.o.f 1 rfl;have y2:=X10.o.f 2 rfl;have y3:=X10.o.f 3 rfl;have y4:=X10.o.f 4 rfl;have y5:=X10.o.f 5 rfl;go_wp2;refine bodyPost_ret (v:=.tuple #[.agg #[.string ⟨#[]⟩,.int .i64 0,.int .i64 0,.int .i64 0,.int .i64 0,.slice none 0 0],.bool false]) (by simp[results,results107,go_sem,x0,x1,x2,x3,x4,x5]) rfl ?_;rw[HZ.o];exact⟨⟨none,0,rfl,fun _=>rfl,.inl rfl⟩,((((((hB10|> bbs)|> bbs)|> bbs)|> bbs)|> bbs)|> bbs)⟩
end Go.Proofs.YtdacedbfnlkghaaGreatDoor