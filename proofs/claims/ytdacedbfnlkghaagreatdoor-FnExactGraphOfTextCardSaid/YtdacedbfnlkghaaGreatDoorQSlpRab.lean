/- The pipe behind a script: the program. The answers told one behind another: the program. A script run: the specification; what its functions answer. How the arguments that come in are read. How rows that come in are read. No conditions but those written. -/
import Derived.Test.YtdacedbfnlkghaaGreatDoorQSseSgt
import Derived.Shelf.Strings.Builder1
import Derived.ProofKit
import Derived.Deep.SlicePairs
import Derived.Lib.SmallJoins
namespace Go.Proofs.YtdacedbfnlkghaaGreatDoor
set_option maxHeartbeats 8000000
set_option maxRecDepth 100000
open Go.RowKit Go.Proofs.Tryz
theorem catT(l:List ByteArray)(t:ByteArray):tx (catL (l++[t]))=tx (catL l)++(t++⟨#[10]⟩):=by
 rw[catL_snoc,←Cj,←Cj,tx_data];rfl
theorem catL_few{l:List ByteArray}(h:l.length≤200):(tx (catL (Qd st0 l).2)).size≤200*200000001:=by
 rw[Kh];have h1:=catL_len (Qd st0 l).2 (m:=200000000) fun t ht=>Mq _ SSI.start t ht
 rw[Ta]at h1;exact Nat.le_trans h1 (Nat.mul_le_mul h (Nat.le_refl _))
theorem l13Run_is(s:ByteArray)(w:World)(hs:s.size≤1048576) :
  Calls prog 44 #[.string s] w (AnsLR w s):=by
 have HP:=Zd (Kt s 10 w hs);have hpos:=Jc s 10;have hlen:=Qp s 10;have e10:((10:UInt8).toNat:Int)=10:=rfl
 try rw[e10]at hpos
 try rw[e10]at hlen
 have HFIT:=Zd (Ch s);have HLR:=Zd (Cg s);have HYES:=Zd (linesR_yes (s:=s));have HNO:=Zd (linesR_no (s:=s));obtain⟨ps,hps⟩:=nmd (Zw s 10);rw[←hps]at HP hpos hlen HYES HNO;clear hps e10;obtain⟨m,hm⟩:∃m,ps.length=m+1:=⟨ps.length-1,by omega⟩;have HM:=Zd hm;go_enter func44,ntmps44;go_wp2_with fail;refine HP.o.mono ?_;rintro e w1 ⟨⟨go,qc,rfl,hno,hF⟩,hb1⟩;obtain⟨g,rfl,hg1,hg2,hg3,_⟩:=hF.at hpos;have hcap:=hF.cap;have HI:=Zd hF.in;have HTX:Zi (∀j,j<ps.length→w1.cell? ⟨g,j,none⟩=some (.string (el ps j))):=fun j hj=>Je HI.o j hj
 obtain⟨W2,h2⟩:=nmd (w1.alloc (.cells #[.slice none 0 0,.pointer none,.bool false,.int .i64 0,.int .i64 0] 89));have hb2:Below w1.1.size w1 W2:=by rw[h2];exact Zk _ _
 have X2:Bx W2 w1.1.size [.slice none 0 0,.pointer none,.bool false,.int .i64 0,.int .i64 0]:=by rw[h2];exact Bx.new [.slice none 0 0,.pointer none,.bool false,.int .i64 0,.int .i64 0] _ rfl
 have SC:Zi (ScQ w1.1.size W2 st0):=.inl ⟨rfl,none,0,[],w1.1.size+1,⟨X2,gr_nil,⟨by simp,fun a ha=>by cases ha⟩,X2.size,Nat.le_refl _⟩,rfl⟩;have H2:=Zd h2;have HB2:=Zd hb2;have HB1:=Zd hb1;have HBW:=Zd (hb1.trans (hb2.mono hb1.size));have cm:=(hb2.cell (p:=⟨g,m,none⟩) hg3).trans (HTX.o m (by omega));have hg4:g<W2.1.size:=Nat.lt_of_lt_of_le hg3 hb2.size;have hw1:IntKind.i64.wrap ((ps.length:Int)-1)=(m:Int):=by rw[IntKind.wrap_i64] <;> omega
 have hmi:(m:Int)<(ps.length:Int):=by omega
 have hme:ps.length-1=m:=by omega
 rw[hme]at HYES HNO;clear hF HP hno h2 hb2 X2 hb1 hg1 hg2 hm hme
 go_upto_region 3 with fail
 rw[←H2.o];clear H2
 by_cases h3:s.size≤3000
 case neg =>
  have hd:decide ((3000:Int)<(s.size:Int))=true:=by simp;omega
  have HL:=Zd (HNO.o fun h=>h3 h.1);clear h3 HYES HNO;go_wp2;refine bodyPost_ret (v:=.tuple #[.pointer (some ⟨w1.1.size,0,none⟩),.string ⟨#[]⟩,.bool false]) (by simp[results,results44,go_sem]) rfl ?_;rw[AnsLR,HL.o,if_neg (by decide)];exact⟨⟨_,rfl⟩,HBW.o⟩
 have hd:decide ((3000:Int)<(s.size:Int))=false:=by simp;omega
 by_cases h200:200<m
 ·have hd2:decide ((200:Int)<(m:Int))=true:=by simp;omega
  have HL:=Zd (HNO.o fun h=>by have:=HM.o;omega);clear h3 HYES HNO;go_wp2;refine bodyPost_ret (v:=.tuple #[.pointer (some ⟨w1.1.size,0,none⟩),.string ⟨#[]⟩,.bool false]) (by simp[results,results44,go_sem]) rfl ?_;rw[AnsLR,HL.o,if_neg (by decide)];exact⟨⟨_,rfl⟩,HBW.o⟩
 have hd2:decide ((200:Int)<(m:Int))=false:=by simp;omega
 by_cases hl:el ps m=⟨#[]⟩
 case neg =>
  have HL:=Zd (HNO.o fun h=>hl h.2.2)
  generalize el ps m=x at cm hl
  have hm1:x.toList≠[]:=fun e=>hl (Ze (by rw[e,Lib.toList_data]))
  have hm2:x.toList.isEmpty=false:=by simpa using hm1
  clear hl hm1 h3 HYES HNO;go_wp2;refine bodyPost_ret (v:=.tuple #[.pointer (some ⟨w1.1.size,0,none⟩),.string ⟨#[]⟩,.bool false]) (by simp[results,results44,go_sem]) rfl ?_;rw[AnsLR,HL.o,if_neg (by decide)];exact⟨⟨_,rfl⟩,HBW.o⟩
 have HL:=Zd (HYES.o ⟨h3,by have:=HM.o;omega,hl⟩);rw[hl]at cm;obtain⟨ls,hls⟩:=nmd (ps.take m);have hll:ls.length=m:=by rw[hls,List.length_take];omega
 have HEL:Zi (∀k,k<m→el ps k=el ls k):=fun k hk=>by rw[hls];simp[el,hk]
 rw[←hls]at HL;have HFI:Zi (∀x∈ls,x.size≤3000):=fun x hx=>HFIT.o x (by rw[HL.o];exact hx)
 have HLL:=Zd hll;have hqc:(m:Int)≤(qc:Int):=by have:=HM.o;omega
 clear hls hl hll h3 HYES HNO;go_wp2
 go_loopw [7,39] (fun u i wr=>∃k:Nat,k≤m∧i=.int .i64 (k:Int)∧u=.string (tx (catL (Qd st0 (ls.take k)).2))∧Zi (ScQ w1.1.size wr (Qd st0 (ls.take k)).1)∧Zi (Below w1.1.size w1 wr)) (fun _ i _=>m-(intOf i).toNat)
 case atStart=>exact⟨0,Nat.zero_le _,rfl,rfl,SC,HB2⟩
 case round =>
  obtain⟨k,hk,rfl,rfl,hS,hB⟩:=hrel
  by_cases hlt:k<m
  ·have hltl:k<ls.length:=by rw[HLL.o];exact hlt
   have d1:=(hB.o.cell (p:=⟨g,k,none⟩) hg3).trans (HTX.o k (by have:=HM.o;omega));rw[HEL.o k hlt]at d1;have hgr:g<wr.1.size:=Nat.lt_of_lt_of_le hg3 hB.o.size;have HI2:=Ci (ls.take k) SSI.start;have HLN:=Zd (lineS_any w1.1.size wr (Qd st0 (ls.take k)).1 (el ls k) hS.o HI2 (HFI.o _ (Zh hltl)));have hts:=ansR_size HI2 (el ls k);have hcs:=catL_few (l:=ls.take k) (by rw[List.length_take];omega);have hsn:=Ns (ls.take k) st0 (el ls k);rw[←Zy hltl]at hsn;obtain⟨A,hA⟩:=nmd (Qd st0 (ls.take k));rw[←hA]at hS hcs HLN hts hsn ⊢;obtain⟨x,hx⟩:=nmd (el ls k);rw[←hx]at d1 HLN hts hsn;have HSN:=Zd hsn;have HBr:=Zd hB.o;have HZr:=Zd hS.o.size;clear hA hx hsn HI2 hS hB;obtain⟨st,xs⟩:=A;dsimp only at HLN hts hcs HSN HZr ⊢;obtain⟨acc,hacc⟩:=nmd (tx (catL xs));rw[←hacc]at hcs ⊢;have HAC:=Zd hacc;obtain⟨R,hR⟩:=nmd (Lq st x);have HRR:=Zd hR;have HL2:Zi (Calls prog 86 #[.pointer (some ⟨w1.1.size,0,none⟩),.string x] wr fun e W'=>e=.returned (.string R.2)∧ScQ w1.1.size W' R.1∧Below w1.1.size wr W'):=by rw[Zi,hR];exact HLN.o
   rw[←hR]at hts HSN;obtain⟨st2,t⟩:=R;dsimp only at HL2 hts HSN;clear hacc hR HLN;have hz10:(⟨#[10]⟩:ByteArray).size=1:=rfl;have hs1:¬9223372036854775807<t.size+1:=by omega
   have hs2:¬9223372036854775807<acc.size+(t.size+1):=by omega
   go_wp2_with fail;refine HL2.o.mono ?_;rintro e w4 ⟨rfl,hS4,hb4⟩;have HS4:=Zd hS4;have HB4:=Zd (HBr.o.trans hb4);clear hS4 hb4 HL2 d1;go_wp2;go_roundw
   case rel=>exact⟨k+1,by omega,by go_num,by rw[HSN.o];dsimp only;rw[catT,←HAC.o],by rw[HSN.o];exact HS4,HB4⟩
   case measure=>simp[intOf];omega
  ·obtain rfl:k=m:=by omega
   rw[List.take_of_length_le (by rw[HLL.o];exact Nat.le_refl _)]at hS ⊢;obtain⟨acc,hacc⟩:=nmd (tx (catL (Qd st0 ls).2));rw[←hacc];have HAC:=Zd hacc;have HS:=Zd hS.o;have HBr:=Zd hB.o;clear hacc hS hB;go_wp2;refine bodyPost_ret (v:=.tuple #[.pointer (some ⟨w1.1.size,0,none⟩),.string acc,.bool true]) (by simp[results,results44,go_sem]) rfl ?_;rw[AnsLR,HL.o,if_pos rfl];exact⟨⟨_,HB1.o.size,by rw[HAC.o],HS.o⟩,HB1.o.trans (HBr.o.mono HB1.o.size)⟩
theorem ScQ.graph{q:Nat}{W:World}{st:SS}(h:ScQ q W st):∃o c us hi,W.cell? ⟨q,0,none⟩=some (.slice o us.length c)∧us.map Zz=st.gs∧GR (q+1) hi W o c us∧hi≤W.1.size∧FitR us:=by
 rcases h with⟨_,o,c,us,hi,hP,hg⟩|⟨_,_,o,c,us,hi,hP,hg⟩|⟨_,_,o,c,us,hi,lo,p,bb,xs,ev,fv,uv,hP,hg,_⟩
 ·exact⟨o,c,us,hi,hP.box.c 0 rfl,hg,hP.gr,hP.hi1,hP.fit⟩
 ·exact⟨o,c,us,hi,hP.box.c 0 rfl,hg,hP.gr,hP.hi1,hP.fit⟩
 ·exact⟨o,c,us,hi,hP.box.c 0 rfl,hg,hP.gr,Nat.le_trans hP.hi1 hP.flow.lo_le,hP.fit⟩
theorem specGraph_is(text:ByteArray)(W:World)(hs:text.size≤1048576) :
  Calls prog 16 #[.string text] W (AnsGT W text):=by
 have HP:=Zd (l13Run_is text W hs);go_enter func16,ntmps16;go_wp2_with fail;refine HP.o.mono ?_;rintro e w1 ⟨hA,hb1⟩;have HB1:=Zd hb1;clear hb1 HP
 by_cases hg:(Qr text).2=true
 ·rw[if_pos hg]at hA;obtain⟨q,hq,rfl,hSC⟩:=hA;obtain⟨o,gc,us,hi,c0,hu,hG,hh,hF⟩:=hSC.graph;have cz:=hSC.size;obtain⟨T,hT⟩:=nmd (tx (catL (Qd st0 (Qr text).1).2));rw[←hT];have HG:=Zd hg;have HU:=Zd hu;have HGR:=Zd hG;have HF:=Zd hF;have HQ:=Zd hq;have HHI:=Zd hh;clear hg hT hSC hu hG hF hq hh;go_wp2;refine bodyPost_ret (v:=.tuple #[.slice o us.length gc,.bool true]) (by simp[results,results16,go_sem]) rfl ?_;refine⟨?_,HB1.o⟩;rw[if_pos HG.o];exact⟨o,gc,us,hi,rfl,HU.o,HGR.o.wide (Nat.le_trans HQ.o (Nat.le_succ _)) (Nat.le_refl _),HHI.o,HF.o⟩
 ·rw[if_neg hg]at hA;obtain⟨q,rfl⟩:=hA;have HG:=Zd hg;clear hg;go_wp2;refine bodyPost_ret (v:=.tuple #[.slice none 0 0,.bool false]) (by simp[results,results16,go_sem]) rfl ?_;refine⟨?_,HB1.o⟩;rw[if_neg HG.o]
section
open Go.ChangeShapes Go.WideShapes Go.ChangeAt Go.RowKit Go.Joins Go.Deep
theorem Tryz.own:ownKnob prog.godebug=none:=by kernel_rfl
theorem Tryz.laidOut:laidOutB prog=true:=by kernel_rfl
end
section
open Go.ChangeShapes Go.WideShapes Go.ChangeAt Go.RowKit Go.Joins Go.Deep
end
end Go.Proofs.YtdacedbfnlkghaaGreatDoor