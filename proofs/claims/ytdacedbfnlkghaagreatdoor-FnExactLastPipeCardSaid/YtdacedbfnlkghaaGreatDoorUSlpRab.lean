/- The pipe behind a script: the program. The answers told one behind another: the program. A script run: the specification; what its functions answer. How the arguments that come in are read. How rows that come in are read. No conditions but those written. -/
import Derived.Test.YtdacedbfnlkghaaGreatDoorUSseSgt
import Derived.Shelf.Strings.Builder1
import Derived.ProofKit
import Derived.Deep.SlicePairs
import Derived.Lib.SmallJoins
namespace Go.Proofs.YtdacedbfnlkghaaGreatDoor
set_option maxHeartbeats 8000000
set_option maxRecDepth 100000
open Go.RowKit Go.Proofs.Tryz
theorem set7_off{W:World}{q b:Nat}(hb:b≠q)(u0 u1 u2 u3 u4 u5 u6:Value):(((((((W.setCell ⟨q,0,none⟩ u0).setCell ⟨q,1,none⟩ u1).setCell ⟨q,2,none⟩ u2).setCell ⟨q,3,none⟩ u3).setCell ⟨q,4,none⟩ u4).setCell ⟨q,5,none⟩ u5).setCell ⟨q,6,none⟩ u6).heap[b]? = W.heap[b]? := by
 rw[Below.heap_setCell _ _ _ _ hb,Below.heap_setCell _ _ _ _ hb,Below.heap_setCell _ _ _ _ hb,Below.heap_setCell _ _ _ _ hb,Below.heap_setCell _ _ _ _ hb,Below.heap_setCell _ _ _ _ hb,Below.heap_setCell _ _ _ _ hb]
def AnsLP(W:World)(text:ByteArray)(e:Ending)(W':World):Prop :=
  (if(Qy text).2=true∧(Qz st0 (Qy text).1).1.bg=true∧(Qz st0 (Qy text).1).1.bad=0 then
    ∃(st:SS)(bb:Nat)(eo:Option Addr)(ec:Nat)(fo:Option Addr)(fc:Nat)(uo:Option Addr)(uc:Nat),st=(Qz st0 (Qy text).1).1∧e=.returned (.tuple #[.agg #[.int .i64 st.s.ti,.int .i64 st.s.it,.bool st.s.cl,.slice (some ⟨bb,0,none⟩) st.s.bx.length st.s.bx.length,.slice eo st.s.em.length ec,.slice fo st.s.fa.length fc,.slice uo st.s.fu.length uc],.bool true])∧FrTT (W.1.size+1) W'.1.size W' (some ⟨bb,0,none⟩) st.s.bx.length st.s.bx∧kOu.Fresh (W.1.size+1) W'.1.size W' eo ec st.s.em∧kLo.Fresh (W.1.size+1) W'.1.size W' fo fc st.s.fa∧kI.Fresh (W.1.size+1) W'.1.size W' uo uc st.s.fu
   else e=.returned (.tuple #[.agg #[.int .i64 0,.int .i64 0,.bool false,.slice none 0 0,.slice none 0 0,.slice none 0 0,.slice none 0 0],.bool false]))∧Below W.1.size W W'
theorem lastPipe_is(n0:Nat)(text:ByteArray)(W:World)(ea:Nat→Addr)(hs:text.size≤1048576)(hV:Env n0 W ea)(hn:n0≤W.1.size) :
  Calls prog 22 #[.string text] W (AnsLP W text):=by
 obtain⟨W0,hW0⟩:=nmd (W.alloc (.cells #[.int .i64 0,.int .i64 0,.bool false,.slice none 0 0,.slice none 0 0,.slice none 0 0,.slice none 0 0] 48));have hb0:Below W.1.size W W0:=by rw[hW0];exact Zk _ _
 have X0:Bx W0 W.1.size [.int .i64 0,.int .i64 0,.bool false,.slice none 0 0,.slice none 0 0,.slice none 0 0,.slice none 0 0]:=by rw[hW0];exact Bx.new (w:=W) [.int .i64 0,.int .i64 0,.bool false,.slice none 0 0,.slice none 0 0,.slice none 0 0,.slice none 0 0] 48 rfl
 have HP:=Zd (playScript_is n0 text W0 ea hs (hV.step (hb0.mono hn)) (Nat.le_trans hn hb0.size));have HW0:=Zd hW0;have HX0:=Zd X0;have Hb0:=Zd hb0;have hwz:=X0.size;clear hV hW0 X0 hb0;go_enter func22,ntmps22;go_wp2_with fail;rw[←HW0.o];refine HP.o.mono ?_;rintro e w1 ⟨hA,hb1⟩;have R1:=HX0.o.later hb1;have HB1:=Zd (Hb0.o.trans (hb1.mono Hb0.o.size));clear hb1 HP
 by_cases hg:(Qy text).2=true
 ·rw[if_pos hg]at hA;obtain⟨q,O,ao,c,hq,rfl,hSC,_⟩:=hA;obtain⟨m,hm⟩:=nmd ((Qz st0 (Qy text).1).2.length);rw[←hm];obtain⟨st,hst⟩:=nmd ((Qz st0 (Qy text).1).1);rw[←hst]at hSC;have HG:=Zd hg;have HST:=Zd hst;have cz:=hSC.size;have y0:=R1.c 0 rfl;have z0:=R1.f 0 rfl;have y1:=R1.c 1 rfl;have z1:=R1.f 1 rfl;have y2:=R1.c 2 rfl;have z2:=R1.f 2 rfl;have y3:=R1.c 3 rfl;have z3:=R1.f 3 rfl;have y4:=R1.c 4 rfl;have z4:=R1.f 4 rfl;have y5:=R1.c 5 rfl;have z5:=R1.f 5 rfl;have y6:=R1.c 6 rfl;have z6:=R1.f 6 rfl;clear hg hm hst R1
  rcases hSC with⟨hb,o,gc,us,hi,hP,_,rfl⟩|⟨hb,hbad,o,gc,us,hi,hP,_,rfl⟩|⟨hb,hbad,o,gc,us,hi,lo,p,bb,so,sc,xs,ev,fv,uv,hP,_,_,rfl⟩
  ·have c3:=hP.box.c 3 rfl;have HB:Zi (¬st.bg=true):=fun h=>by rw[hb]at h;cases h
   clear hb hP;go_wp2;refine bodyPost_ret (v:=.tuple #[.agg #[.int .i64 0,.int .i64 0,.bool false,.slice none 0 0,.slice none 0 0,.slice none 0 0,.slice none 0 0],.bool false]) (by simp[results,results22,go_sem,y0,y1,y2,y3,y4,y5,y6]) rfl ?_;refine⟨?_,(((((((HB1.o|> bbs)|> bbs)|> bbs)|> bbs)|> bbs)|> bbs)|> bbs)⟩;rw[if_neg (fun hh=>HB.o (by rw[HST.o];exact hh.2.1))]
  ·have c3:=hP.box.c 3 rfl;have HB:=Zd hbad;clear hb hbad hP;go_wp2;refine bodyPost_ret (v:=.tuple #[.agg #[.int .i64 0,.int .i64 0,.bool false,.slice none 0 0,.slice none 0 0,.slice none 0 0,.slice none 0 0],.bool false]) (by simp[results,results22,go_sem,y0,y1,y2,y3,y4,y5,y6]) rfl ?_;refine⟨?_,(((((((HB1.o|> bbs)|> bbs)|> bbs)|> bbs)|> bbs)|> bbs)|> bbs)⟩;rw[if_neg (fun hh=>HB.o (by rw[HST.o];exact hh.2.2))]
  ·have F:=hP.flow;have c3:=hP.box.c 3 rfl;have p2:=F.box.c 2 rfl;have p3:=F.box.c 3 rfl;have p4:=F.box.c 4 rfl;have p5:=F.box.c 5 rfl;have p6:=F.box.c 6 rfl;have p7:=F.box.c 7 rfl;have p8:=F.box.c 8 rfl;have pz:=F.box.size;obtain⟨eo,ec,he,_,hEf⟩:=F.emo.fresh;obtain⟨fo,fc,hf,_,hFf⟩:=F.fao.fresh;obtain⟨uo,uc,hu,_,hUf⟩:=F.fuo.fresh;rw[he]at p6;rw[hf]at p7;rw[hu]at p8;have hqlo:=hP.qlo;have hlob:=F.lob;have HLO:Zi (W.1.size+1≤lo):=by have:=Hb0.o.size;rw[Zi];omega
   have HLB:Zi (lo≤bb):=hlob;have HBX:=Zd (F.hnd.fr);have HEF:=Zd hEf;have HFF:=Zd hFf;have HUF:=Zd hUf;have HB:=Zd hb;have HBAD:=Zd hbad;clear hb hbad hP F he hf hu hEf hFf hUf hqlo hlob;go_wp2;refine bodyPost_ret (v:=.tuple #[.agg #[.int .i64 st.s.ti,.int .i64 st.s.it,.bool st.s.cl,.slice (some ⟨bb,0,none⟩) st.s.bx.length st.s.bx.length,.slice eo st.s.em.length ec,.slice fo st.s.fa.length fc,.slice uo st.s.fu.length uc],.bool true]) (by simp[results,results22,go_sem,y0,y1,y2,y3,y4,y5,y6]) rfl ?_;obtain⟨w5,h5⟩:=nmd ((((((((w1.setCell ⟨W.1.size,0,none⟩ (.int .i64 st.s.ti)).setCell ⟨W.1.size,1,none⟩ (.int .i64 st.s.it)).setCell ⟨W.1.size,2,none⟩ (.bool st.s.cl)).setCell ⟨W.1.size,3,none⟩ (.slice (some ⟨bb,0,none⟩) st.s.bx.length st.s.bx.length)).setCell ⟨W.1.size,4,none⟩ (.slice eo st.s.em.length ec)).setCell ⟨W.1.size,5,none⟩ (.slice fo st.s.fa.length fc)).setCell ⟨W.1.size,6,none⟩ (.slice uo st.s.fu.length uc)));rw[←h5];have hk:∀b,b≠W.1.size→w5.heap[b]? = w1.heap[b]? := fun b hb=>by rw[h5];exact set7_off hb _ _ _ _ _ _ _
   have hz5:w5.1.size=w1.1.size:=by rw[h5];simp[World.setCell]
   have hlo:=HLO.o;have hlb:=HLB.o;have hkF:∀b,lo≤b→b<w1.1.size→b<w1.1.size→w5.heap[b]? = w1.heap[b]? := fun b h1 _ _=>hk b (by omega)
   refine⟨?_,by rw[h5];exact(((((((HB1.o|> bbs)|> bbs)|> bbs)|> bbs)|> bbs)|> bbs)|> bbs)⟩;rw[if_pos ⟨HG.o,by rw[←HST.o];exact HB.o,by rw[←HST.o];exact HBAD.o⟩];exact⟨st,bb,eo,ec,fo,fc,uo,uc,HST.o,rfl,⟨_,(HBX.o.keep fun b h1 h2 h3=>hk b (by omega)).wide (by omega) (by omega)⟩,(HEF.o.keep hkF).wide (by omega) (by omega),(HFF.o.keep hkF).wide (by omega) (by omega),(HUF.o.keep hkF).wide (by omega) (by omega)⟩
 ·rw[if_neg hg]at hA;subst hA;have HG:=Zd hg;have y0:=R1.c 0 rfl;have z0:=R1.f 0 rfl;have y1:=R1.c 1 rfl;have z1:=R1.f 1 rfl;have y2:=R1.c 2 rfl;have z2:=R1.f 2 rfl;have y3:=R1.c 3 rfl;have z3:=R1.f 3 rfl;have y4:=R1.c 4 rfl;have z4:=R1.f 4 rfl;have y5:=R1.c 5 rfl;have z5:=R1.f 5 rfl;have y6:=R1.c 6 rfl;have z6:=R1.f 6 rfl;clear hg R1;go_wp2;refine bodyPost_ret (v:=.tuple #[.agg #[.int .i64 0,.int .i64 0,.bool false,.slice none 0 0,.slice none 0 0,.slice none 0 0,.slice none 0 0],.bool false]) (by simp[results,results22,go_sem,y0,y1,y2,y3,y4,y5,y6]) rfl ?_;refine⟨?_,(((((((HB1.o|> bbs)|> bbs)|> bbs)|> bbs)|> bbs)|> bbs)|> bbs)⟩;rw[if_neg (fun hh=>HG.o hh.1)]
theorem catT(l:List ByteArray)(t:ByteArray):tx (catL (l++[t]))=tx (catL l)++(t++⟨#[10]⟩):=by
 rw[catL_snoc,←tx_app,←tx_app,tx_data];rfl
theorem catL_few{l:List ByteArray}(h:l.length≤200):(tx (catL (Qz st0 l).2)).size≤200*200000001:=by
 rw[Ki];have h1:=catL_len (Qz st0 l).2 (m:=200000000) fun t ht=>Md _ SSI.start t ht
 rw[Tm]at h1;exact Nat.le_trans h1 (Nat.mul_le_mul h (Nat.le_refl _))
theorem l13Run_is(s:ByteArray)(w:World)(hs:s.size≤1048576) :
  Calls prog 44 #[.string s] w (AnsLR w s):=by
 have HP:=Zd (Xz s 10 w hs);have hpos:=Jd s 10;have hlen:=Qr s 10;have e10:((10:UInt8).toNat:Int)=10:=rfl
 try rw[e10]at hpos
 try rw[e10]at hlen
 have HFIT:=Zd (Ft s);have HLR:=Zd (Fs s);have HYES:=Zd (linesR_yes (s:=s));have HNO:=Zd (linesR_no (s:=s));obtain⟨ps,hps⟩:=nmd (Zw s 10);rw[←hps]at HP hpos hlen HYES HNO;clear hps e10;obtain⟨m,hm⟩:∃m,ps.length=m+1:=⟨ps.length-1,by omega⟩;have HM:=Zd hm;go_enter func44,ntmps44;go_wp2_with fail;refine HP.o.mono ?_;rintro e w1 ⟨⟨go,qc,rfl,hno,hF⟩,hb1⟩;obtain⟨g,rfl,hg1,hg2,hg3,_⟩:=hF.at hpos;have hcap:=hF.cap;have HI:=Zd hF.in;have HTX:Zi (∀j,j<ps.length→w1.cell? ⟨g,j,none⟩=some (.string (el ps j))):=fun j hj=>Jf HI.o j hj
 obtain⟨W2,h2⟩:=nmd (w1.alloc (.cells #[.slice none 0 0,.pointer none,.bool false,.int .i64 0,.int .i64 0] 89));have hb2:Below w1.1.size w1 W2:=by rw[h2];exact Zk _ _
 have X2:Bx W2 w1.1.size [.slice none 0 0,.pointer none,.bool false,.int .i64 0,.int .i64 0]:=by rw[h2];exact Bx.new [.slice none 0 0,.pointer none,.bool false,.int .i64 0,.int .i64 0] _ rfl
 have SC:Zi (ScQ w1.1.size W2 st0):=.inl ⟨rfl,none,0,[],w1.1.size+1,⟨X2,gr_nil,⟨by simp,fun a ha=>by cases ha⟩,X2.size,Nat.le_refl _⟩,rfl⟩;have H2:=Zd h2;have HB2:=Zd hb2;have HB1:=Zd hb1;have HBW:=Zd (hb1.trans (hb2.mono hb1.size));have cm:=(hb2.cell (p:=⟨g,m,none⟩) hg3).trans (HTX.o m (by omega));have hg4:g<W2.1.size:=Nat.lt_of_lt_of_le hg3 hb2.size;have hw1:IntKind.i64.wrap ((ps.length:Int)-1)=(m:Int):=by rw[IntKind.wrap_i64] <;> omega
 have hmi:(m:Int)<(ps.length:Int):=by omega
 have hme:ps.length-1=m:=by omega
 rw[hme]at HYES HNO;clear hF HP hno h2 hb2 X2 hb1 hg1 hg2 hm hme
 go_upto_region 3 with fail
 rw[←H2.o];clear H2
 by_cases h3:s.size≤3000
 case neg =>
  have hd:decide ((3000:Int)<(s.size:Int))=true:=by simp;omega
  have HL:=Zd (HNO.o fun h=>h3 h.1);clear h3 HYES HNO;go_wp2;refine bodyPost_ret (v:=.tuple #[.pointer (some ⟨w1.1.size,0,none⟩),.string ⟨#[]⟩,.bool false]) (by simp[results,results44,go_sem]) rfl ?_;rw[AnsLR,HL.o,if_neg (by decide)];exact⟨⟨_,rfl⟩,HBW.o⟩
 have hd:decide ((3000:Int)<(s.size:Int))=false:=by simp;omega
 by_cases h200:200<m
 ·have hd2:decide ((200:Int)<(m:Int))=true:=by simp;omega
  have HL:=Zd (HNO.o fun h=>by have:=HM.o;omega);clear h3 HYES HNO;go_wp2;refine bodyPost_ret (v:=.tuple #[.pointer (some ⟨w1.1.size,0,none⟩),.string ⟨#[]⟩,.bool false]) (by simp[results,results44,go_sem]) rfl ?_;rw[AnsLR,HL.o,if_neg (by decide)];exact⟨⟨_,rfl⟩,HBW.o⟩
 have hd2:decide ((200:Int)<(m:Int))=false:=by simp;omega
 by_cases hl:el ps m=⟨#[]⟩
 case neg =>
  have HL:=Zd (HNO.o fun h=>hl h.2.2)
  generalize el ps m=x at cm hl
  have hm1:x.toList≠[]:=fun e=>hl (Ze (by rw[e,Lib.toList_data]))
  have hm2:x.toList.isEmpty=false:=by simpa using hm1
  clear hl hm1 h3 HYES HNO;go_wp2;refine bodyPost_ret (v:=.tuple #[.pointer (some ⟨w1.1.size,0,none⟩),.string ⟨#[]⟩,.bool false]) (by simp[results,results44,go_sem]) rfl ?_;rw[AnsLR,HL.o,if_neg (by decide)];exact⟨⟨_,rfl⟩,HBW.o⟩
 have HL:=Zd (HYES.o ⟨h3,by have:=HM.o;omega,hl⟩);rw[hl]at cm;obtain⟨ls,hls⟩:=nmd (ps.take m);have hll:ls.length=m:=by rw[hls,List.length_take];omega
 have HEL:Zi (∀k,k<m→el ps k=el ls k):=fun k hk=>by rw[hls];simp[el,hk]
 rw[←hls]at HL;have HFI:Zi (∀x∈ls,x.size≤3000):=fun x hx=>HFIT.o x (by rw[HL.o];exact hx)
 have HLL:=Zd hll;have hqc:(m:Int)≤(qc:Int):=by have:=HM.o;omega
 clear hls hl hll h3 HYES HNO;go_wp2
 go_loopw [7,39] (fun u i wr=>∃k:Nat,k≤m∧i=.int .i64 (k:Int)∧u=.string (tx (catL (Qz st0 (ls.take k)).2))∧Zi (ScQ w1.1.size wr (Qz st0 (ls.take k)).1)∧Zi (Below w1.1.size w1 wr)) (fun _ i _=>m-(intOf i).toNat)
 case atStart=>exact⟨0,Nat.zero_le _,rfl,rfl,SC,HB2⟩
 case round =>
  obtain⟨k,hk,rfl,rfl,hS,hB⟩:=hrel
  by_cases hlt:k<m
  ·have hltl:k<ls.length:=by rw[HLL.o];exact hlt
   have d1:=(hB.o.cell (p:=⟨g,k,none⟩) hg3).trans (HTX.o k (by have:=HM.o;omega));rw[HEL.o k hlt]at d1;have hgr:g<wr.1.size:=Nat.lt_of_lt_of_le hg3 hB.o.size;have HI2:=Tn (ls.take k) SSI.start;have HLN:=Zd (lineS_any w1.1.size wr (Qz st0 (ls.take k)).1 (el ls k) hS.o HI2 (HFI.o _ (Zl hltl)));have hts:=ansR_size HI2 (el ls k);have hcs:=catL_few (l:=ls.take k) (by rw[List.length_take];omega);have hsn:=Pb (ls.take k) st0 (el ls k);rw[←Zy hltl]at hsn;obtain⟨A,hA⟩:=nmd (Qz st0 (ls.take k));rw[←hA]at hS hcs HLN hts hsn ⊢;obtain⟨x,hx⟩:=nmd (el ls k);rw[←hx]at d1 HLN hts hsn;have HSN:=Zd hsn;have HBr:=Zd hB.o;have HZr:=Zd hS.o.size;clear hA hx hsn HI2 hS hB;obtain⟨st,xs⟩:=A;dsimp only at HLN hts hcs HSN HZr ⊢;obtain⟨acc,hacc⟩:=nmd (tx (catL xs));rw[←hacc]at hcs ⊢;have HAC:=Zd hacc;obtain⟨R,hR⟩:=nmd (Lc st x);have HRR:=Zd hR;have HL2:Zi (Calls prog 86 #[.pointer (some ⟨w1.1.size,0,none⟩),.string x] wr fun e W'=>e=.returned (.string R.2)∧ScQ w1.1.size W' R.1∧Below w1.1.size wr W'):=by rw[Zi,hR];exact HLN.o
   rw[←hR]at hts HSN;obtain⟨st2,t⟩:=R;dsimp only at HL2 hts HSN;clear hacc hR HLN;have hz10:(⟨#[10]⟩:ByteArray).size=1:=rfl;have hs1:¬9223372036854775807<t.size+1:=by omega
   have hs2:¬9223372036854775807<acc.size+(t.size+1):=by omega
   go_wp2_with fail;refine HL2.o.mono ?_;rintro e w4 ⟨rfl,hS4,hb4⟩;have HS4:=Zd hS4;have HB4:=Zd (HBr.o.trans hb4);clear hS4 hb4 HL2 d1;go_wp2;go_roundw
   case rel=>exact⟨k+1,by omega,by go_num,by rw[HSN.o];dsimp only;rw[catT,←HAC.o],by rw[HSN.o];exact HS4,HB4⟩
   case measure=>simp[intOf];omega
  ·obtain rfl:k=m:=by omega
   rw[List.take_of_length_le (by rw[HLL.o];exact Nat.le_refl _)]at hS ⊢;obtain⟨acc,hacc⟩:=nmd (tx (catL (Qz st0 ls).2));rw[←hacc];have HAC:=Zd hacc;have HS:=Zd hS.o;have HBr:=Zd hB.o;clear hacc hS hB;go_wp2;refine bodyPost_ret (v:=.tuple #[.pointer (some ⟨w1.1.size,0,none⟩),.string acc,.bool true]) (by simp[results,results44,go_sem]) rfl ?_;rw[AnsLR,HL.o,if_pos rfl];exact⟨⟨_,HB1.o.size,by rw[HAC.o],HS.o⟩,HB1.o.trans (HBr.o.mono HB1.o.size)⟩
theorem specLast_is(text:ByteArray)(W:World)(hs:text.size≤1048576) :
  Calls prog 21 #[.string text] W (AnsLP W text):=by
 obtain⟨W0,hW0⟩:=nmd (W.alloc (.cells #[.int .i64 0,.int .i64 0,.bool false,.slice none 0 0,.slice none 0 0,.slice none 0 0,.slice none 0 0] 48));have hb0:Below W.1.size W W0:=by rw[hW0];exact Zk _ _
 have X0:Bx W0 W.1.size [.int .i64 0,.int .i64 0,.bool false,.slice none 0 0,.slice none 0 0,.slice none 0 0,.slice none 0 0]:=by rw[hW0];exact Bx.new (w:=W) [.int .i64 0,.int .i64 0,.bool false,.slice none 0 0,.slice none 0 0,.slice none 0 0,.slice none 0 0] 48 rfl
 have HP:=Zd (l13Run_is text W0 hs);have HW0:=Zd hW0;have HX0:=Zd X0;have Hb0:=Zd hb0;have hwz:=X0.size;clear hW0 X0 hb0;go_enter func21,ntmps21;go_wp2_with fail;rw[←HW0.o];refine HP.o.mono ?_;rintro e w1 ⟨hA,hb1⟩;have R1:=HX0.o.later hb1;have HB1:=Zd (Hb0.o.trans (hb1.mono Hb0.o.size));clear hb1 HP
 by_cases hg:(Qy text).2=true
 ·rw[if_pos hg]at hA;obtain⟨q,hq,rfl,hSC⟩:=hA;obtain⟨T,hm⟩:=nmd (tx (catL (Qz st0 (Qy text).1).2));rw[←hm];obtain⟨st,hst⟩:=nmd ((Qz st0 (Qy text).1).1);rw[←hst]at hSC;have HG:=Zd hg;have HST:=Zd hst;have cz:=hSC.size;have y0:=R1.c 0 rfl;have z0:=R1.f 0 rfl;have y1:=R1.c 1 rfl;have z1:=R1.f 1 rfl;have y2:=R1.c 2 rfl;have z2:=R1.f 2 rfl;have y3:=R1.c 3 rfl;have z3:=R1.f 3 rfl;have y4:=R1.c 4 rfl;have z4:=R1.f 4 rfl;have y5:=R1.c 5 rfl;have z5:=R1.f 5 rfl;have y6:=R1.c 6 rfl;have z6:=R1.f 6 rfl;clear hg hm hst R1
  rcases hSC with⟨hb,o,gc,us,hi,hP,_⟩|⟨hb,hbad,o,gc,us,hi,hP,_⟩|⟨hb,hbad,o,gc,us,hi,lo,p,bb,xs,ev,fv,uv,hP,_,_⟩
  ·have c2:=hP.box.c 2 rfl;have HB:Zi (¬st.bg=true):=fun h=>by rw[hb]at h;cases h
   clear hb hP;go_wp2;refine bodyPost_ret (v:=.tuple #[.agg #[.int .i64 0,.int .i64 0,.bool false,.slice none 0 0,.slice none 0 0,.slice none 0 0,.slice none 0 0],.bool false]) (by simp[results,results21,go_sem,y0,y1,y2,y3,y4,y5,y6]) rfl ?_;refine⟨?_,(((((((HB1.o|> bbs)|> bbs)|> bbs)|> bbs)|> bbs)|> bbs)|> bbs)⟩;rw[if_neg (fun hh=>HB.o (by rw[HST.o];exact hh.2.1))]
  ·have c2:=hP.box.c 2 rfl;have c3:=hP.box.c 3 rfl;have HB:=Zd hbad;have hdb:(st.bad != 0)=true:=by simpa using hbad
   clear hb hbad hP;go_wp2;refine bodyPost_ret (v:=.tuple #[.agg #[.int .i64 0,.int .i64 0,.bool false,.slice none 0 0,.slice none 0 0,.slice none 0 0,.slice none 0 0],.bool false]) (by simp[results,results21,go_sem,y0,y1,y2,y3,y4,y5,y6]) rfl ?_;refine⟨?_,(((((((HB1.o|> bbs)|> bbs)|> bbs)|> bbs)|> bbs)|> bbs)|> bbs)⟩;rw[if_neg (fun hh=>HB.o (by rw[HST.o];exact hh.2.2))]
  ·have F:=hP.flow;have c1:=hP.box.c 1 rfl;have c2:=hP.box.c 2 rfl;have c3:=hP.box.c 3 rfl;have p1:=F.box.c 1 rfl;have p2:=F.box.c 2 rfl;have p3:=F.box.c 3 rfl;have p4:=F.box.c 4 rfl;have p5:=F.box.c 5 rfl;have p6:=F.box.c 6 rfl;have p7:=F.box.c 7 rfl;have pz:=F.box.size;obtain⟨eo,ec,he,_,hEf⟩:=F.emo.fresh;obtain⟨fo,fc,hf,_,hFf⟩:=F.fao.fresh;obtain⟨uo,uc,hu,_,hUf⟩:=F.fuo.fresh;rw[he]at p5;rw[hf]at p6;rw[hu]at p7;have hqlo:=hP.qlo;have hlob:=F.lob;have HLO:Zi (W.1.size+1≤lo):=by have:=Hb0.o.size;rw[Zi];omega
   have HLB:Zi (lo≤bb):=hlob;have HBX:=Zd (F.hnd.fr);have HEF:=Zd hEf;have HFF:=Zd hFf;have HUF:=Zd hUf;have HB:=Zd hb;have HBAD:=Zd hbad;clear hb hbad hP F he hf hu hEf hFf hUf hqlo hlob;go_wp2;refine bodyPost_ret (v:=.tuple #[.agg #[.int .i64 st.s.ti,.int .i64 st.s.it,.bool st.s.cl,.slice (some ⟨bb,0,none⟩) st.s.bx.length st.s.bx.length,.slice eo st.s.em.length ec,.slice fo st.s.fa.length fc,.slice uo st.s.fu.length uc],.bool true]) (by simp[results,results21,go_sem,y0,y1,y2,y3,y4,y5,y6]) rfl ?_;obtain⟨w5,h5⟩:=nmd ((((((((w1.setCell ⟨W.1.size,0,none⟩ (.int .i64 st.s.ti)).setCell ⟨W.1.size,1,none⟩ (.int .i64 st.s.it)).setCell ⟨W.1.size,2,none⟩ (.bool st.s.cl)).setCell ⟨W.1.size,3,none⟩ (.slice (some ⟨bb,0,none⟩) st.s.bx.length st.s.bx.length)).setCell ⟨W.1.size,4,none⟩ (.slice eo st.s.em.length ec)).setCell ⟨W.1.size,5,none⟩ (.slice fo st.s.fa.length fc)).setCell ⟨W.1.size,6,none⟩ (.slice uo st.s.fu.length uc)));rw[←h5];have hk:∀b,b≠W.1.size→w5.heap[b]? = w1.heap[b]? := fun b hb=>by rw[h5];exact set7_off hb _ _ _ _ _ _ _
   have hz5:w5.1.size=w1.1.size:=by rw[h5];simp[World.setCell]
   have hlo:=HLO.o;have hlb:=HLB.o;have hkF:∀b,lo≤b→b<w1.1.size→b<w1.1.size→w5.heap[b]? = w1.heap[b]? := fun b h1 _ _=>hk b (by omega)
   refine⟨?_,by rw[h5];exact(((((((HB1.o|> bbs)|> bbs)|> bbs)|> bbs)|> bbs)|> bbs)|> bbs)⟩;rw[if_pos ⟨HG.o,by rw[←HST.o];exact HB.o,by rw[←HST.o];exact HBAD.o⟩];exact⟨st,bb,eo,ec,fo,fc,uo,uc,HST.o,rfl,⟨_,(HBX.o.keep fun b h1 h2 h3=>hk b (by omega)).wide (by omega) (by omega)⟩,(HEF.o.keep hkF).wide (by omega) (by omega),(HFF.o.keep hkF).wide (by omega) (by omega),(HUF.o.keep hkF).wide (by omega) (by omega)⟩
 ·rw[if_neg hg]at hA;obtain⟨q,rfl⟩:=hA;have HG:=Zd hg;have y0:=R1.c 0 rfl;have z0:=R1.f 0 rfl;have y1:=R1.c 1 rfl;have z1:=R1.f 1 rfl;have y2:=R1.c 2 rfl;have z2:=R1.f 2 rfl;have y3:=R1.c 3 rfl;have z3:=R1.f 3 rfl;have y4:=R1.c 4 rfl;have z4:=R1.f 4 rfl;have y5:=R1.c 5 rfl;have z5:=R1.f 5 rfl;have y6:=R1.c 6 rfl;have z6:=R1.f 6 rfl;clear hg R1;go_wp2;refine bodyPost_ret (v:=.tuple #[.agg #[.int .i64 0,.int .i64 0,.bool false,.slice none 0 0,.slice none 0 0,.slice none 0 0,.slice none 0 0],.bool false]) (by simp[results,results21,go_sem,y0,y1,y2,y3,y4,y5,y6]) rfl ?_;refine⟨?_,(((((((HB1.o|> bbs)|> bbs)|> bbs)|> bbs)|> bbs)|> bbs)|> bbs)⟩;rw[if_neg (fun hh=>HG.o hh.1)]
section
open Go.ChangeShapes Go.WideShapes Go.ChangeAt Go.RowKit Go.Joins Go.Deep
theorem Tryz.own:ownKnob prog.godebug=none:=by kernel_rfl
theorem Tryz.laidOut:laidOutB prog=true:=by kernel_rfl
end
section
open Go.ChangeShapes Go.WideShapes Go.ChangeAt Go.RowKit Go.Joins Go.Deep
end
end Go.Proofs.YtdacedbfnlkghaaGreatDoor