/- The pipe behind a script: the program. The answers told one behind another: the program. A script run: the specification; what its functions answer. How the arguments that come in are read. How rows that come in are read. No conditions but those written. -/
import Derived.Test.YtdacedbfnlkghaaGreatDoorPSseSgt
import Derived.Shelf.Strings.Builder1
import Derived.ProofKit
import Derived.Deep.SlicePairs
import Derived.Lib.SmallJoins
namespace Go.Proofs.YtdacedbfnlkghaaGreatDoor
set_option maxHeartbeats 8000000
set_option maxRecDepth 100000
open Go.RowKit Go.Proofs.Tryz
def Tryz.renWB:Go.Shelf.Ren:={ Tryz.laysJoin_ren with f:=fun k=>if k=167 then 42 else Tryz.laysJoin_ren.f k }
theorem Tryz.laysWS:Lays.n166 prog Tryz.laysJoin_ren:={ Tryz.laysJoin with }
theorem Tryz.laysSt:Lays.n169 prog Tryz.laysJoin_ren:={ Tryz.laysJoin with }
theorem Tryz.laysWB:Lays.n167 prog Tryz.renWB:={ Tryz.laysJoin with f167:=by kernel_rfl,f240:=by kernel_rfl,f276:=by kernel_rfl,t5:=Xm.t5,a5:=Xm.a5,z5:=Xm.z5,v5:=Xm.v5 }
theorem Tryz.extraWB:Builder.Extra prog Tryz.renWB:={ Xm with }
def BuS(B b:Nat)(l:List UInt8)(w:World):Prop:=Lib.IsBuilder 78 5 B b (Lib.byteCells l) w
theorem wrStr_is(B b:Nat)(l:List UInt8)(s:ByteArray)(w:World)(h:BuS B b l w)(hlen:l.length+s.size≤140737488355328)(hB:B≤w.1.size) :
  Calls prog 41 #[.pointer (some ⟨b,0,none⟩),.string s] w fun e w'=>(∃m:Int,e=.returned (.tuple #[.int .i64 m,.nilIface]))∧BuS B b (l++s.data.toList) w'∧Below B w w':=by
 have hc:Calls prog 41 #[.pointer (some ⟨b,0,none⟩),.string s] w _:=Any.Builder_WriteString Tryz.laysWS Xm B b (Lib.byteCells l) s w h (by rw[Lib.byteCells_length];exact hlen) hB;refine hc.mono ?_;rintro e w' ⟨rfl,hb,hl⟩;refine⟨⟨_,rfl⟩,.inr ?_,hl⟩;rw[Lib.byteCells_append];exact hb
theorem wrByte_is(B b:Nat)(l:List UInt8)(w:World)(h:BuS B b l w)(hlen:l.length+1≤140737488355328)(hB:B≤w.1.size) :
  Calls prog 42 #[.pointer (some ⟨b,0,none⟩),.int .u8 10] w fun e w'=>e=.returned .nilIface∧BuS B b (l++[10]) w'∧Below B w w':=by
 have hc:Calls prog 42 #[.pointer (some ⟨b,0,none⟩),.int .u8 10] w _:=Any.Builder_WriteByte Tryz.laysWB Tryz.extraWB B b (Lib.byteCells l) 10 w h (by rw[Lib.byteCells_length];exact hlen) hB;refine hc.mono ?_;rintro e w' ⟨rfl,hb,hl⟩;refine⟨rfl,.inr ?_,hl⟩;rw[Lib.byteCells_append];exact hb
theorem wrTold_is(B b:Nat)(l:List UInt8)(w:World)(h:BuS B b l w)(hB:B≤w.1.size) :
  Calls prog 43 #[.pointer (some ⟨b,0,none⟩)] w fun e w'=>e=.returned (.string (tx l))∧Below B w w':=by
 have hc:Calls prog 43 #[.pointer (some ⟨b,0,none⟩)] w _:=Any.Builder_String_any Tryz.laysSt Xm B b l w h hB;exact hc
theorem BuS.new(w:World):BuS w.1.size w.1.size [] (w.alloc (.cells #[.pointer none,.slice none 0 0] 78)):=Lib.fresh_isBuilder _ _ w
theorem catT(l:List ByteArray)(t:ByteArray):tx (Rh (l++[t]))=tx (Rh l)++(t++⟨#[10]⟩):=by
 rw[catL_snoc,←tx_app,←tx_app,tx_data];rfl
theorem catL_few{l:List ByteArray}(h:l.length≤200):(tx (Rh (Qx st0 l).2)).size≤200*200000001:=by
 rw[Kl];have h1:=catL_len (Qx st0 l).2 (m:=200000000) fun t ht=>Yu _ SSI.start t ht
 rw[Ya]at h1;exact Nat.le_trans h1 (Nat.mul_le_mul h (Nat.le_refl _))
theorem l13Run_is(s:ByteArray)(w:World)(hs:s.size≤1048576) :
  Calls prog 44 #[.string s] w (AnsLR w s):=by
 have HP:=Zd (Xz s 10 w hs);have hpos:=Jd s 10;have hlen:=Qr s 10;have e10:((10:UInt8).toNat:Int)=10:=rfl
 try rw[e10]at hpos
 try rw[e10]at hlen
 have HFIT:=Zd (Fq s);have HLR:=Zd (Gs s);have HYES:=Zd (linesR_yes (s:=s));have HNO:=Zd (linesR_no (s:=s));obtain⟨ps,hps⟩:=nmd (Za s 10);rw[←hps]at HP hpos hlen HYES HNO;clear hps e10;obtain⟨m,hm⟩:∃m,ps.length=m+1:=⟨ps.length-1,by omega⟩;have HM:=Zd hm;go_enter func44,ntmps44;go_wp2_with fail;refine HP.o.mono ?_;rintro e w1 ⟨⟨go,qc,rfl,hno,hF⟩,hb1⟩;obtain⟨g,rfl,hg1,hg2,hg3,_⟩:=hF.at hpos;have hcap:=hF.cap;have HI:=Zd hF.in;have HTX:Zi (∀j,j<ps.length→w1.cell? ⟨g,j,none⟩=some (.string (el ps j))):=fun j hj=>Jg HI.o j hj
 obtain⟨W2,h2⟩:=nmd (w1.alloc (.cells #[.slice none 0 0,.pointer none,.bool false,.int .i64 0,.int .i64 0] 89));have hb2:Below w1.1.size w1 W2:=by rw[h2];exact Zk _ _
 have X2:Bx W2 w1.1.size [.slice none 0 0,.pointer none,.bool false,.int .i64 0,.int .i64 0]:=by rw[h2];exact Bx.new [.slice none 0 0,.pointer none,.bool false,.int .i64 0,.int .i64 0] _ rfl
 have SC:Zi (ScQ w1.1.size W2 st0):=.inl ⟨rfl,none,0,[],w1.1.size+1,⟨X2,gr_nil,⟨by simp,fun a ha=>by cases ha⟩,X2.size,Nat.le_refl _⟩,rfl⟩;have H2:=Zd h2;have HB2:=Zd hb2;have HB1:=Zd hb1;have HBW:=Zd (hb1.trans (hb2.mono hb1.size));have cm:=(hb2.cell (p:=⟨g,m,none⟩) hg3).trans (HTX.o m (by omega));have hg4:g<W2.1.size:=Nat.lt_of_lt_of_le hg3 hb2.size;have hw1:IntKind.i64.wrap ((ps.length:Int)-1)=(m:Int):=by rw[IntKind.wrap_i64] <;> omega
 have hmi:(m:Int)<(ps.length:Int):=by omega
 have hme:ps.length-1=m:=by omega
 rw[hme]at HYES HNO;clear hF HP hno h2 hb2 X2 hb1 hg1 hg2 hm hme
 go_upto_region 3 with fail
 rw[←H2.o];clear H2
 by_cases h3:s.size≤3000
 case neg =>
  have hd:decide ((3000:Int)<(s.size:Int))=true:=by simp;omega
  have HL:=Zd (HNO.o fun h=>h3 h.1);clear h3 HYES HNO;go_wp2;refine bodyPost_ret (v:=.tuple #[.pointer (some ⟨w1.1.size,0,none⟩),.string ⟨#[]⟩,.bool false]) (by simp[results,results44,go_sem]) rfl ?_;rw[AnsLR,HL.o,if_neg (by decide)];exact⟨⟨_,rfl⟩,HBW.o⟩
 have hd:decide ((3000:Int)<(s.size:Int))=false:=by simp;omega
 by_cases h200:200<m
 ·have hd2:decide ((200:Int)<(m:Int))=true:=by simp;omega
  have HL:=Zd (HNO.o fun h=>by have:=HM.o;omega);clear h3 HYES HNO;go_wp2;refine bodyPost_ret (v:=.tuple #[.pointer (some ⟨w1.1.size,0,none⟩),.string ⟨#[]⟩,.bool false]) (by simp[results,results44,go_sem]) rfl ?_;rw[AnsLR,HL.o,if_neg (by decide)];exact⟨⟨_,rfl⟩,HBW.o⟩
 have hd2:decide ((200:Int)<(m:Int))=false:=by simp;omega
 by_cases hl:el ps m=⟨#[]⟩
 case neg =>
  have HL:=Zd (HNO.o fun h=>hl h.2.2)
  generalize el ps m=x at cm hl
  have hm1:x.toList≠[]:=fun e=>hl (Zy (by rw[e,Lib.toList_data]))
  have hm2:x.toList.isEmpty=false:=by simpa using hm1
  clear hl hm1 h3 HYES HNO;go_wp2;refine bodyPost_ret (v:=.tuple #[.pointer (some ⟨w1.1.size,0,none⟩),.string ⟨#[]⟩,.bool false]) (by simp[results,results44,go_sem]) rfl ?_;rw[AnsLR,HL.o,if_neg (by decide)];exact⟨⟨_,rfl⟩,HBW.o⟩
 have HL:=Zd (HYES.o ⟨h3,by have:=HM.o;omega,hl⟩);rw[hl]at cm;obtain⟨ls,hls⟩:=nmd (ps.take m);have hll:ls.length=m:=by rw[hls,List.length_take];omega
 have HEL:Zi (∀k,k<m→el ps k=el ls k):=fun k hk=>by rw[hls];simp[el,hk]
 rw[←hls]at HL;have HFI:Zi (∀x∈ls,x.size≤3000):=fun x hx=>HFIT.o x (by rw[HL.o];exact hx)
 have HLL:=Zd hll;have hqc:(m:Int)≤(qc:Int):=by have:=HM.o;omega
 clear hls hl hll h3 HYES HNO;go_wp2
 go_loopw [7,39] (fun u i wr=>∃k:Nat,k≤m∧i=.int .i64 (k:Int)∧u=.string (tx (Rh (Qx st0 (ls.take k)).2))∧Zi (ScQ w1.1.size wr (Qx st0 (ls.take k)).1)∧Zi (Below w1.1.size w1 wr)) (fun _ i _=>m-(intOf i).toNat)
 case atStart=>exact⟨0,Nat.zero_le _,rfl,rfl,SC,HB2⟩
 case round =>
  obtain⟨k,hk,rfl,rfl,hS,hB⟩:=hrel
  by_cases hlt:k<m
  ·have hltl:k<ls.length:=by rw[HLL.o];exact hlt
   have d1:=(hB.o.cell (p:=⟨g,k,none⟩) hg3).trans (HTX.o k (by have:=HM.o;omega));rw[HEL.o k hlt]at d1;have hgr:g<wr.1.size:=Nat.lt_of_lt_of_le hg3 hB.o.size;have HI2:=Fk (ls.take k) SSI.start;have HLN:=Zd (lineS_any w1.1.size wr (Qx st0 (ls.take k)).1 (el ls k) hS.o HI2 (HFI.o _ (Zh hltl)));have hts:=ansR_size HI2 (el ls k);have hcs:=catL_few (l:=ls.take k) (by rw[List.length_take];omega);have hsn:=Nu (ls.take k) st0 (el ls k);rw[←Zb hltl]at hsn;obtain⟨A,hA⟩:=nmd (Qx st0 (ls.take k));rw[←hA]at hS hcs HLN hts hsn ⊢;obtain⟨x,hx⟩:=nmd (el ls k);rw[←hx]at d1 HLN hts hsn;have HSN:=Zd hsn;have HBr:=Zd hB.o;have HZr:=Zd hS.o.size;clear hA hx hsn HI2 hS hB;obtain⟨st,xs⟩:=A;dsimp only at HLN hts hcs HSN HZr ⊢;obtain⟨acc,hacc⟩:=nmd (tx (Rh xs));rw[←hacc]at hcs ⊢;have HAC:=Zd hacc;obtain⟨R,hR⟩:=nmd (Lj st x);have HRR:=Zd hR;have HL2:Zi (Calls prog 86 #[.pointer (some ⟨w1.1.size,0,none⟩),.string x] wr fun e W'=>e=.returned (.string R.2)∧ScQ w1.1.size W' R.1∧Below w1.1.size wr W'):=by rw[Zi,hR];exact HLN.o
   rw[←hR]at hts HSN;obtain⟨st2,t⟩:=R;dsimp only at HL2 hts HSN;clear hacc hR HLN;have hz10:(⟨#[10]⟩:ByteArray).size=1:=rfl;have hs1:¬9223372036854775807<t.size+1:=by omega
   have hs2:¬9223372036854775807<acc.size+(t.size+1):=by omega
   go_wp2_with fail;refine HL2.o.mono ?_;rintro e w4 ⟨rfl,hS4,hb4⟩;have HS4:=Zd hS4;have HB4:=Zd (HBr.o.trans hb4);clear hS4 hb4 HL2 d1;go_wp2;go_roundw
   case rel=>exact⟨k+1,by omega,by go_num,by rw[HSN.o];dsimp only;rw[catT,←HAC.o],by rw[HSN.o];exact HS4,HB4⟩
   case measure=>simp[intOf];omega
  ·obtain rfl:k=m:=by omega
   rw[List.take_of_length_le (by rw[HLL.o];exact Nat.le_refl _)]at hS ⊢;obtain⟨acc,hacc⟩:=nmd (tx (Rh (Qx st0 ls).2));rw[←hacc];have HAC:=Zd hacc;have HS:=Zd hS.o;have HBr:=Zd hB.o;clear hacc hS hB;go_wp2;refine bodyPost_ret (v:=.tuple #[.pointer (some ⟨w1.1.size,0,none⟩),.string acc,.bool true]) (by simp[results,results44,go_sem]) rfl ?_;rw[AnsLR,HL.o,if_pos rfl];exact⟨⟨_,HB1.o.size,by rw[HAC.o],HS.o⟩,HB1.o.trans (HBr.o.mono HB1.o.size)⟩
theorem Dx(s:ByteArray)(w:World)(hs:s.size≤1048576) :
  Calls prog 14 #[.string s] w (AnsRP w s):=by
 have HP:Zi (Calls prog 44 #[.string s] w fun e W'=>(∃q b,e=.returned (.tuple #[.pointer (some ⟨q,0,none⟩),.string (tx (Rh (Qx st0 (Qm s).1).2)),.bool b]))∧Below w.1.size w W'):=by
  refine(l13Run_is s w hs).mono ?_;rintro e W' ⟨hA,hb⟩;refine⟨?_,hb⟩
  by_cases hg:(Qm s).2=true
  ·rw[if_pos hg]at hA;obtain⟨q,_,he,_⟩:=hA;exact⟨q,true,he⟩
  ·rw[if_neg hg]at hA;obtain⟨q,he⟩:=hA;refine⟨q,false,?_⟩;rw[he,Fj hg];rfl
 rw[show AnsRP w s=fun e W'=>e=.returned (.string (tx (Rh (Qx st0 (Qm s).1).2)))∧Below w.1.size w W' from rfl];obtain⟨T,hT⟩:=nmd (tx (Rh (Qx st0 (Qm s).1).2));rw[←hT]at HP ⊢;clear hT;go_enter func14,ntmps14;go_wp2_with fail;refine HP.o.mono ?_;rintro e w1 ⟨⟨q,b,rfl⟩,hb1⟩;have HB:=Zd hb1;clear hb1 HP;go_wp2;refine bodyPost_ret (v:=.string T) (by simp[results,results14,go_sem]) rfl ?_;exact⟨rfl,HB.o⟩
theorem runPipe_is(n0:Nat)(s:ByteArray)(W:World)(ea:Nat→Addr)(hs:s.size≤1048576)(hV:Env n0 W ea)(hn:n0≤W.1.size) :
  Calls prog 13 #[.string s] W (AnsRP W s):=by
 obtain⟨xs,hxs⟩:=nmd ((Qx st0 (Qm s).1).2);have HFT:Zi (∀k,(Rh (xs.take k)).length≤200*200000001):=fun k=>by rw[hxs];exact catL_fit s k
 have HSZ:Zi (∀t∈xs,t.size≤200000000):=fun t ht=>Yu _ SSI.start t (by rw[hxs]at ht;exact ht)
 have hxl:xs.length≤200:=by rw[hxs,Ya];exact Gs s
 have HP:Zi (Calls prog 40 #[.string s] W fun e W'=>(∃pq ao c b,e=.returned (.tuple #[.pointer pq,.slice ao xs.length c,.bool b])∧kS.In W'.1.size W' ao xs)∧Below W.1.size W W'):=by
  refine(playScript_is n0 s W ea hs hV hn).mono ?_;rintro e W' ⟨hA,hb⟩;refine⟨?_,hb⟩
  by_cases hg:(Qm s).2=true
  ·rw[if_pos hg]at hA;obtain⟨q,O,ao,c,_,he,_,hI⟩:=hA;exact⟨_,ao,c,true,by rw[hxs];exact he,by rw[hxs];exact hI⟩
  ·rw[if_neg hg]at hA;rw[Fj hg]at hxs;have h0:xs=[]:=hxs;exact⟨none,none,0,false,by rw[hA,h0];rfl,by rw[h0];exact .inl rfl⟩
 rw[show AnsRP W s=fun e W'=>e=.returned (.string (tx (Rh (Qx st0 (Qm s).1).2)))∧Below W.1.size W W' from rfl,←hxs];clear hxs hV;go_enter func13,ntmps13;go_wp2_with fail;refine HP.o.mono ?_;rintro e w1 ⟨⟨pq,ao,c,b,rfl,hI⟩,hb1⟩;obtain⟨W2,h2⟩:=nmd (w1.alloc (.cells #[.pointer none,.slice none 0 0] 78));have HU:Zi (BuS w1.1.size w1.1.size (Rh (xs.take 0)) W2):=by rw[h2];exact BuS.new w1
 have hb2:Below w1.1.size w1 W2:=by rw[h2];exact Zk _ _
 have HI:=Zd hI;have HB1:=Zd hb1;have HB2:=Zd hb2;have H2:=Zd h2;clear h2 hb2 hI hb1 HP
 go_upto_region 3 with fail
 rw[←H2.o];clear H2;go_wp2
 go_loopw [17] (fun i wr=>∃k:Nat,k≤xs.length∧i=.int .i64 (k:Int)∧Zi (BuS w1.1.size w1.1.size (Rh (xs.take k)) wr)∧Zi (Below w1.1.size w1 wr)) (fun i _=>xs.length-(intOf i).toNat)
 case atStart=>exact⟨0,Nat.zero_le _,rfl,HU,HB2⟩
 case round =>
  obtain⟨k,hk,rfl,hU,hB⟩:=hrel
  by_cases hlt:k<xs.length
  ·obtain⟨tb,off,rfl,hb,hc⟩:=Je HI.o hlt;have e0:=(hB.o.cell (p:=⟨tb,off+k,none⟩) hb).trans (hc k hlt);have hbz:tb<wr.1.size:=Nat.lt_of_lt_of_le hb hB.o.size;have hts:=HSZ.o _ (Zh hlt);have hft:=HFT.o k;have hsn:Rh (xs.take (k+1))=(Rh (xs.take k)++(el xs k).data.toList)++[10]:=by rw[Zb hlt,catL_snoc,List.append_assoc]
   obtain⟨t,ht⟩:=nmd (el xs k);rw[←ht]at e0 hts hsn;obtain⟨acc,hacc⟩:=nmd (Rh (xs.take k));rw[←hacc]at hU hft hsn;have HSN:=Zd hsn;have HW:=Zd (wrStr_is w1.1.size w1.1.size acc t wr hU.o (by omega) hB.o.size);have HBr:=Zd hB.o;have hdl:t.data.toList.length=t.size:=Array.length_toList;have HLN:Zi ((acc++t.data.toList).length+1≤140737488355328):=by rw[Zi,List.length_append,hdl];omega
   clear ht hacc hsn hU hB hc hdl;go_wp2_with fail;refine HW.o.mono ?_;rintro e w4 ⟨⟨mm,rfl⟩,hU4,hb4⟩;have HB4:=Zd (HBr.o.trans hb4);have HW2:=Zd (wrByte_is w1.1.size w1.1.size (acc++t.data.toList) w4 hU4 HLN.o HB4.o.size);clear hU4 hb4 HW e0;go_wp2_with fail;refine HW2.o.mono ?_;rintro e w5 ⟨rfl,hU5,hb5⟩;have HB5:=Zd (HB4.o.trans hb5);have HU5:=Zd hU5;clear hU5 hb5 HW2;go_wp2;go_roundw
   case rel=>exact⟨k+1,by omega,by go_num,by rw[HSN.o];exact HU5,HB5⟩
   case measure=>simp[intOf];omega
  ·obtain rfl:k=xs.length:=by omega
   rw[List.take_length]at hU;have HW:=Zd (wrTold_is w1.1.size w1.1.size (Rh xs) wr hU.o hB.o.size);have HBr:=Zd hB.o;obtain⟨T,hT⟩:=nmd (tx (Rh xs));rw[←hT]at HW;have HT:=Zd hT;clear hU hB hT;go_wp2_with fail;refine HW.o.mono ?_;rintro e w4 ⟨rfl,hb4⟩;have HB4:=Zd (HBr.o.trans hb4);clear hb4 HW;go_wp2;refine bodyPost_ret (v:=.string T) (by simp[results,results13,go_sem]) rfl ?_;exact⟨by rw[HT.o],HB1.o.trans (HB4.o.mono HB1.o.size)⟩
section
open Go.ChangeShapes Go.WideShapes Go.ChangeAt Go.RowKit Go.Joins Go.Deep
theorem Tryz.own:ownKnob prog.godebug=none:=by kernel_rfl
theorem Tryz.laidOut:laidOutB prog=true:=by kernel_rfl
end
section
open Go.ChangeShapes Go.WideShapes Go.ChangeAt Go.RowKit Go.Joins Go.Deep
end
end Go.Proofs.YtdacedbfnlkghaaGreatDoor