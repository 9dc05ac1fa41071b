/- What is told of a script's pipe: the specification. A node read: what both sides find. No conditions but those written. -/
import Derived.Test.YtdacedbfnlkghaaGreatDoorUSpsSsc
namespace Go.Proofs.YtdacedbfnlkghaaGreatDoor
set_option maxHeartbeats 8000000
set_option maxRecDepth 100000
open Go.RowKit Go.Proofs.Tryz
theorem row_two(a b:Int):(⟨#[32]⟩:ByteArray)++Qm ⟨#[58]⟩ [a,b]=((⟨#[32]⟩++tx (Lib.itoa a))++⟨#[58]⟩)++tx (Lib.itoa b):=by
 have h1:Qm ⟨#[58]⟩ [a,b]=Wv ([tx (Lib.itoa a)]++[tx (Lib.itoa b)]) ⟨#[58]⟩:=rfl;rw[h1,Xk (by simp),Gd];simp only[ByteArray.append_assoc]
theorem row_three(a b c:Int):(⟨#[32]⟩:ByteArray)++Qm ⟨#[58]⟩ [a,b,c]=((((⟨#[32]⟩++tx (Lib.itoa a))++⟨#[58]⟩)++tx (Lib.itoa b))++⟨#[58]⟩)++tx (Lib.itoa c):=by
 have h1:Qm ⟨#[58]⟩ [a,b,c]=Wv (([tx (Lib.itoa a)]++[tx (Lib.itoa b)])++[tx (Lib.itoa c)]) ⟨#[58]⟩:=rfl;rw[h1,Xk (by simp),Xk (by simp),Gd];simp only[ByteArray.append_assoc]
theorem row_four(a b c d:Int):(⟨#[32]⟩:ByteArray)++Qm ⟨#[58]⟩ [a,b,c,d]=((((((⟨#[32]⟩++tx (Lib.itoa a))++⟨#[58]⟩)++tx (Lib.itoa b))++⟨#[58]⟩)++tx (Lib.itoa c))++⟨#[58]⟩)++tx (Lib.itoa d):=by
 have h1:Qm ⟨#[58]⟩ [a,b,c,d]=Wv ((([tx (Lib.itoa a)]++[tx (Lib.itoa b)])++[tx (Lib.itoa c)])++[tx (Lib.itoa d)]) ⟨#[58]⟩:=rfl;rw[h1,Xk (by simp),Xk (by simp),Xk (by simp),Gd];simp only[ByteArray.append_assoc]
theorem Mb{w:ByteArray}{rows:List (List Int)}(hw:w.size≤100)(hn:rows.length≤900000)(h:∀r∈rows,r.length≤4∧Xi r):(Qt w rows).size≤200000000:=by
 have h1:=Xt w rows hw h
 omega
theorem tells_rep(q:Nat)(W:World)(o:Option Addr)(c:Nat)(us:List LNode)(hi lo p bb:Nat)(xs:List Value)(ev fv uv:Value)(s:PP)(n:Nat)(h:QR q W o c us hi lo p bb xs ev fv uv s n)(go:Option Addr)(gn gc:Nat) :
  Calls prog 112 #[.pointer (some ⟨q,0,none⟩),.string ⟨#[114,101,112,111,114,116]⟩,.slice go gn gc] W (Da q W o c us hi lo p (repP s.it s.em.length s.fa.length (Zs s.bx) s.cl) s n):=by
 obtain⟨eo,ec,he,_,hEI⟩:=h.flow.emo.in;obtain⟨fo,fc,hf,_,hFI⟩:=h.flow.fao.in;obtain⟨uo,uc,hu,_,_⟩:=h.flow.fuo.in;obtain⟨W1,h1⟩:=nmd (W.alloc (.cells #[.int .i64 s.ti,.int .i64 s.it,.bool s.cl,.slice (some ⟨bb,0,none⟩) s.bx.length s.bx.length,.slice eo s.em.length ec,.slice fo s.fa.length fc,.slice uo s.fu.length uc] 48));have hb1:Below W.1.size W W1:=by rw[h1];exact Zk _ _
 have XP:Bx W1 W.1.size [.int .i64 s.ti,.int .i64 s.it,.bool s.cl,.slice (some ⟨bb,0,none⟩) s.bx.length s.bx.length,.slice eo s.em.length ec,.slice fo s.fa.length fc,.slice uo s.fu.length uc]:=by rw[h1];exact Bx.new [.int .i64 s.ti,.int .i64 s.it,.bool s.cl,.slice (some ⟨bb,0,none⟩) s.bx.length s.bx.length,.slice eo s.em.length ec,.slice fo s.fa.length fc,.slice uo s.fu.length uc] _ rfl
 have H1:=Zd h1;have P1:=Zd (h.later hb1);have HB1:=Zd hb1;have HQW:Zi (q≤W.1.size):=Nat.le_of_lt h.box.size;have EI:=Zd (hEI.later hb1);have FI:=Zd (hFI.later hb1);have BI:=Zd (FrTT.in (show FrTT bb W.1.size W (some ⟨bb,0,none⟩) s.bx.length s.bx from⟨_,h.flow.hnd.fr⟩)|>.later hb1);have c1:=h.box.c 1 rfl;have cz:=h.box.size;have p1:=h.flow.box.c 1 rfl;have p2:=h.flow.box.c 2 rfl;have p3:=h.flow.box.c 3 rfl;have p4:=h.flow.box.c 4 rfl;have p5:=h.flow.box.c 5 rfl;have p6:=h.flow.box.c 6 rfl;have p7:=h.flow.box.c 7 rfl;have pz:=h.flow.box.size;rw[he]at p5;rw[hf]at p6;rw[hu]at p7;have HXP:=Zd XP;have HRW:=Zd (h.sci.raw h.few);clear h h1 hb1 XP he hf hu hEI hFI;go_enter func112,ntmps112
 go_upto_region 2 with fail
 rw[←H1.o];clear H1 c1 cz p1 p2 p3 p4 p5 p6 p7 pz;obtain⟨x0,x1,x2,x3,x4,x5,x6⟩:=HXP.o.y7;have xz:=HXP.o.size;have HC:=Zd (specReport_is s.ti s.it s.cl (some ⟨bb,0,none⟩) s.bx.length s.bx eo s.em.length ec fo s.fa.length fc uo s.fu.length uc W1 (by have:=HRW.o.it0;omega) (by have:=HRW.o.it1;omega) (by have:=HRW.o.em;omega) (by have:=HRW.o.tot;omega) ⟨by have:=HRW.o.len;have:=P1.o.fit.1;rw[Zb]at *;omega,by have:=HRW.o.tot;omega⟩ BI.o);obtain⟨T,hT⟩:=nmd (repP s.it s.em.length s.fa.length (Zs s.bx) s.cl);rw[←hT]at HC;have HT:=Zd hT;clear hT;go_wp2_with fail;refine HC.o.mono ?_;rintro e w2 ⟨rfl,hb2⟩;have HB2:=Zd hb2;clear hb2 HC x0 x1 x2 x3 x4 x5 x6 xz;go_wp2;refine bodyPost_ret (v:=.string T) (by simp[results,results112,go_sem]) rfl ?_;exact⟨by rw[HT.o],bb,xs,ev,fv,uv,P1.o.later HB2.o,(HB1.o.mono HQW.o).trans (HB2.o.mono (Nat.le_trans HQW.o HB1.o.size))⟩
theorem tells_run(q:Nat)(W:World)(o:Option Addr)(c:Nat)(us:List LNode)(hi lo p bb:Nat)(xs:List Value)(ev fv uv:Value)(s:PP)(n:Nat)(h:QR q W o c us hi lo p bb xs ev fv uv s n)(go:Option Addr)(gn gc:Nat) :
  Calls prog 112 #[.pointer (some ⟨q,0,none⟩),.string ⟨#[114,117,110]⟩,.slice go gn gc] W (Da q W o c us hi lo p (tx [115,116,101,112,115,32]++tx (Lib.itoa (Rf (us.map Zz) s:Int))) (itS (us.map Zz) (Rf (us.map Zz) s) { s with cl:=true }) n):=by
 obtain⟨eo,ec,he,_,hEI⟩:=h.flow.emo.in;obtain⟨fo,fc,hf,_,hFI⟩:=h.flow.fao.in;obtain⟨uo,uc,hu,_,_⟩:=h.flow.fuo.in;obtain⟨W1,h1⟩:=nmd (W.alloc (.cells #[.int .i64 s.ti,.int .i64 s.it,.bool s.cl,.slice (some ⟨bb,0,none⟩) s.bx.length s.bx.length,.slice eo s.em.length ec,.slice fo s.fa.length fc,.slice uo s.fu.length uc] 48));have hb1:Below W.1.size W W1:=by rw[h1];exact Zk _ _
 have XP:Bx W1 W.1.size [.int .i64 s.ti,.int .i64 s.it,.bool s.cl,.slice (some ⟨bb,0,none⟩) s.bx.length s.bx.length,.slice eo s.em.length ec,.slice fo s.fa.length fc,.slice uo s.fu.length uc]:=by rw[h1];exact Bx.new [.int .i64 s.ti,.int .i64 s.it,.bool s.cl,.slice (some ⟨bb,0,none⟩) s.bx.length s.bx.length,.slice eo s.em.length ec,.slice fo s.fa.length fc,.slice uo s.fu.length uc] _ rfl
 have H1:=Zd h1;have P1:=Zd (h.later hb1);have HB1:=Zd hb1;have HQW:Zi (q≤W.1.size):=Nat.le_of_lt h.box.size;have EI:=Zd (hEI.later hb1);have FI:=Zd (hFI.later hb1);have BI:=Zd (FrTT.in (show FrTT bb W.1.size W (some ⟨bb,0,none⟩) s.bx.length s.bx from⟨_,h.flow.hnd.fr⟩)|>.later hb1);have c1:=h.box.c 1 rfl;have cz:=h.box.size;have p1:=h.flow.box.c 1 rfl;have p2:=h.flow.box.c 2 rfl;have p3:=h.flow.box.c 3 rfl;have p4:=h.flow.box.c 4 rfl;have p5:=h.flow.box.c 5 rfl;have p6:=h.flow.box.c 6 rfl;have p7:=h.flow.box.c 7 rfl;have pz:=h.flow.box.size;rw[he]at p5;rw[hf]at p6;rw[hu]at p7;have HXP:=Zd XP;have HRW:=Zd (h.sci.raw h.few);clear h h1 hb1 XP he hf hu hEI hFI;go_enter func112,ntmps112
 go_upto_region 2 with fail
 rw[←H1.o];clear H1 c1 cz p1 p2 p3 p4 p5 p6 p7 pz;have hg:=P1.o.good;obtain⟨hK2,hK⟩:=P1.o.sci.halt hg.1 hg.2.1 hg.2.2 P1.o.few;have HSI:=Zd (P1.o.sci.ran hg.1 hg.2.1 hg.2.2 P1.o.few hK);have HRI:=Zd (P1.o.sci.run hg.1 hg.2.2 P1.o.few);obtain⟨gb,goff,rfl,hgl⟩:=P1.o.some;have HRY:=Zd (runS_any lo W1 p bb gb goff c us xs ev fv uv s (Rf (us.map Zz) s) P1.o.flow (P1.o.gr.inHi.up Zf P1.o.hi1) hgl hg.1 hg.2.1 HRI.o hK hK2);have c1:=P1.o.box.c 1 rfl;have cz:=P1.o.box.size;obtain⟨K,hKK⟩:=nmd (Rf (us.map Zz) s);rw[←hKK]at HRY HSI hK2;have HKK:=Zd hKK;clear hKK hK hg HRI;go_wp2_with fail;refine HRY.o.mono ?_;rintro e w2 ⟨bb',xs',ev',fv',uv',rfl,hF2,hl2⟩;have HP2:=Zd (P1.o.put hF2 hl2 HSI.o);have HB2:=Zd ((HB1.o.mono HQW.o).trans (hl2.mono (Nat.le_of_lt P1.o.qlo)));clear hF2 hl2 HRY c1 cz;go_wp2_with fail;refine(Jg (K:Int) (by omega) (by omega) w2).mono ?_;rintro e w4 ⟨rfl,hb4⟩;obtain⟨y,hy⟩:=nmd (tx (Lib.itoa (K:Int)));have hys:y.size≤100:=by rw[hy];exact Xq (K:Int) (by omega) (by omega)
 have hy3:¬9223372036854775807<6+y.size:=by omega
 have HY:=Zd hy;rw[←hy];have HB4:=Zd hb4;clear hy hb4;go_wp2;refine bodyPost_ret (v:=.string (⟨#[115,116,101,112,115,32]⟩++y)) (by simp[results,results112,go_sem]) rfl ?_;rw[←HKK.o,←HY.o];exact⟨rfl,bb',xs',ev',fv',uv',HP2.o.later HB4.o,HB2.o.trans (HB4.o.mono (Nat.le_of_lt HP2.o.box.size))⟩
theorem tells_out(q:Nat)(W:World)(o:Option Addr)(c:Nat)(us:List LNode)(hi lo p bb:Nat)(xs:List Value)(ev fv uv:Value)(s:PP)(n:Nat)(h:QR q W o c us hi lo p bb xs ev fv uv s n)(go:Option Addr)(gn gc:Nat)(hR:RgI s) :
  Calls prog 112 #[.pointer (some ⟨q,0,none⟩),.string ⟨#[111,117,116]⟩,.slice go gn gc] W (Da q W o c us hi lo p (Qt ⟨#[111,117,116]⟩ (s.em.map Jj)) s n):=by
 obtain⟨eo,ec,he,_,hEI⟩:=h.flow.emo.in;obtain⟨fo,fc,hf,_,hFI⟩:=h.flow.fao.in;obtain⟨uo,uc,hu,_,_⟩:=h.flow.fuo.in;obtain⟨W1,h1⟩:=nmd (W.alloc (.cells #[.int .i64 s.ti,.int .i64 s.it,.bool s.cl,.slice (some ⟨bb,0,none⟩) s.bx.length s.bx.length,.slice eo s.em.length ec,.slice fo s.fa.length fc,.slice uo s.fu.length uc] 48));have hb1:Below W.1.size W W1:=by rw[h1];exact Zk _ _
 have XP:Bx W1 W.1.size [.int .i64 s.ti,.int .i64 s.it,.bool s.cl,.slice (some ⟨bb,0,none⟩) s.bx.length s.bx.length,.slice eo s.em.length ec,.slice fo s.fa.length fc,.slice uo s.fu.length uc]:=by rw[h1];exact Bx.new [.int .i64 s.ti,.int .i64 s.it,.bool s.cl,.slice (some ⟨bb,0,none⟩) s.bx.length s.bx.length,.slice eo s.em.length ec,.slice fo s.fa.length fc,.slice uo s.fu.length uc] _ rfl
 have H1:=Zd h1;have P1:=Zd (h.later hb1);have HB1:=Zd hb1;have HQW:Zi (q≤W.1.size):=Nat.le_of_lt h.box.size;have EI:=Zd (hEI.later hb1);have FI:=Zd (hFI.later hb1);have BI:=Zd (FrTT.in (show FrTT bb W.1.size W (some ⟨bb,0,none⟩) s.bx.length s.bx from⟨_,h.flow.hnd.fr⟩)|>.later hb1);have c1:=h.box.c 1 rfl;have cz:=h.box.size;have p1:=h.flow.box.c 1 rfl;have p2:=h.flow.box.c 2 rfl;have p3:=h.flow.box.c 3 rfl;have p4:=h.flow.box.c 4 rfl;have p5:=h.flow.box.c 5 rfl;have p6:=h.flow.box.c 6 rfl;have p7:=h.flow.box.c 7 rfl;have pz:=h.flow.box.size;rw[he]at p5;rw[hf]at p6;rw[hu]at p7;have HXP:=Zd XP;have HRW:=Zd (h.sci.raw h.few);clear h h1 hb1 XP he hf hu hEI hFI;go_enter func112,ntmps112
 go_upto_region 2 with fail
 rw[←H1.o];clear H1 c1 cz p1 p2 p3 p4 p5 p6 p7 pz;obtain⟨x0,x1,x2,x3,x4,x5,x6⟩:=HXP.o.y7;have xz:=HXP.o.size;have HR64:Zi (∀t∈s.em,Xi (Jj t)):=fun t ht=>(hR.em t ht).row
 have HLS:Zi (∀k,(Qt ⟨#[111,117,116]⟩ ((s.em.take k).map Jj)).size≤200000000):=fun k=>Mb (by decide) (by rw[List.length_map,List.length_take];have:s.em.length≤900000:=(by have:=HRW.o.em;omega);omega) (fun r hr=>by
  obtain⟨t,ht,rfl⟩:=List.mem_map.1 hr;exact⟨by simp[Jj],HR64.o t (List.mem_of_mem_take ht)⟩)
 have hll9:s.em.length≤900000:=(by have:=HRW.o.em;omega);clear hR;obtain⟨l,hl⟩:=nmd (s.em);rw[←hl]at HR64 HLS hll9 EI x4 ⊢;have HL:=Zd hl;clear hl;go_wp2
 go_loopw [8,45] (fun u i wr=>∃k:Nat,k≤l.length∧i=.int .i64 k∧u=.string (Qt ⟨#[111,117,116]⟩ ((l.take k).map Jj))∧Zi (Below W1.1.size W1 wr)) (fun _ i _=>l.length-(intOf i).toNat)
 case atStart=>exact⟨0,Nat.zero_le _,rfl,by rw[List.take_zero,List.map_nil,Mc],Below.refl _ _⟩
 case round =>
  obtain⟨k,hk,rfl,rfl,hB⟩:=hrel;have hsz:=Zd (HLS.o k)
  by_cases hlt:k<l.length
  ·obtain⟨b,off,rfl,hb,hc⟩:=kOu_at EI.o hlt;obtain⟨d0,d1,d2⟩:=hc k hlt;have e0:=(hB.o.cell (p:=⟨b,off+k*3,none⟩) hb).trans d0;have e1:=(hB.o.cell (p:=⟨b,off+k*3+1,none⟩) hb).trans d1;have e2:=(hB.o.cell (p:=⟨b,off+k*3+2,none⟩) hb).trans d2;have hbz:b<wr.1.size:=Nat.lt_of_lt_of_le hb hB.o.size;have h64:=HR64.o (el l k) (Zl hlt);have hsn:Qt ⟨#[111,117,116]⟩ ((l.take (k+1)).map Jj)=Qt ⟨#[111,117,116]⟩ ((l.take k).map Jj)++(⟨#[32]⟩++Qm ⟨#[58]⟩ (Jj (el l k))):=by
    rw[Zy hlt,List.map_append,List.map_cons,List.map_nil,Tl]
   obtain⟨acc,hacc⟩:=nmd (Qt ⟨#[111,117,116]⟩ ((l.take k).map Jj));rw[←hacc]at hsn ⊢;have hal:acc.size≤200000000:=by rw[hacc];exact hsz.o
   obtain⟨t,ht⟩:=nmd (el l k);rw[←ht]at e0 e1 e2 h64 hsn;obtain⟨a0,a1,a2⟩:=t;dsimp only[Jj]at e0 e1 e2 h64 hsn;rw[row_three]at hsn;have n0:=h64 a0 (by simp);have n1:=h64 a1 (by simp);have n2:=h64 a2 (by simp);have HN0:=Zd (fun W=>Jg a0 n0.1 n0.2 W);have s0:(tx (Lib.itoa a0)).size≤100:=Xq a0 n0.1 n0.2;have HN1:=Zd (fun W=>Jg a1 n1.1 n1.2 W);have s1:(tx (Lib.itoa a1)).size≤100:=Xq a1 n1.1 n1.2;have HN2:=Zd (fun W=>Jg a2 n2.1 n2.2 W);have s2:(tx (Lib.itoa a2)).size≤100:=Xq a2 n2.1 n2.2;obtain⟨t0,ht0⟩:=nmd (tx (Lib.itoa a0));obtain⟨t1,ht1⟩:=nmd (tx (Lib.itoa a1));obtain⟨t2,ht2⟩:=nmd (tx (Lib.itoa a2));rw[←ht0,←ht1,←ht2]at hsn;rw[←ht0]at HN0 s0;rw[←ht1]at HN1 s1;rw[←ht2]at HN2 s2;have HSN:=Zd hsn;obtain⟨W2,h2⟩:=nmd (wr.alloc (.cells #[.int .i64 a0,.int .i64 a1,.int .i64 a2] 138));have XV:Bx W2 wr.1.size [.int .i64 a0,.int .i64 a1,.int .i64 a2]:=by rw[h2];exact Bx.new [.int .i64 a0,.int .i64 a1,.int .i64 a2] _ rfl
   have hb2:Below wr.1.size wr W2:=by rw[h2];exact Zk _ _
   have H2:=Zd h2;have HX:=Zd XV;have HB2:=Zd (hB.o.trans (hb2.mono hB.o.size));clear hacc ht h64 hsn h2 XV hb2 ht0 ht1 ht2 n0 n1 n2 d0 d1 d2 hc hsz
   go_upto_region 12 with fail
   rw[←H2.o];clear H2 e0 e1 e2;have hNE:=Vz W2;have x0:=HX.o.at 0 rfl;have x1:=HX.o.at 1 rfl;have x2:=HX.o.at 2 rfl;refine Qo W2 (by kernel_rfl) (by kernel_rfl) (Below.refl _ _) ?_
   repeat(go_big_quiet_step (first|(go_at_call 73;first|(with_reducible exact Calls.later (HN0.o _))|(with_reducible exact Calls.later (HN1.o _))|(with_reducible exact Calls.later (HN2.o _)))))
   refine wpQuiet_nil ?_;rintro w4 ⟨⟨w5,hb4⟩,hw5⟩;obtain rfl:w4=w5:=hw5;clear x0 x1 x2 hNE;have HB4:=Zd (HB2.o.trans (hb4.mono HB2.o.size));clear hb4;go_wp2;go_roundw
   case rel=>exact⟨k+1,by omega,by go_num,by rw[HSN.o],HB4⟩
   case measure=>simp[intOf];omega
  ·obtain rfl:k=l.length:=by omega
   rw[List.take_length];obtain⟨T,hT⟩:=nmd (Qt ⟨#[111,117,116]⟩ (l.map Jj));rw[←hT];have HT:=Zd hT;have HB2:=Zd hB.o;clear hT;go_wp2;refine bodyPost_ret (v:=.string T) (by simp[results,results112,go_sem]) rfl ?_;exact⟨by rw[HT.o,HL.o],bb,xs,ev,fv,uv,P1.o.later HB2.o,(HB1.o.mono HQW.o).trans (HB2.o.mono (Nat.le_trans HQW.o HB1.o.size))⟩
theorem tells_lost(q:Nat)(W:World)(o:Option Addr)(c:Nat)(us:List LNode)(hi lo p bb:Nat)(xs:List Value)(ev fv uv:Value)(s:PP)(n:Nat)(h:QR q W o c us hi lo p bb xs ev fv uv s n)(go:Option Addr)(gn gc:Nat)(hR:RgI s) :
  Calls prog 112 #[.pointer (some ⟨q,0,none⟩),.string ⟨#[108,111,115,116]⟩,.slice go gn gc] W (Da q W o c us hi lo p (Qt ⟨#[108,111,115,116]⟩ (s.fa.map Qv)) s n):=by
 obtain⟨eo,ec,he,_,hEI⟩:=h.flow.emo.in;obtain⟨fo,fc,hf,_,hFI⟩:=h.flow.fao.in;obtain⟨uo,uc,hu,_,_⟩:=h.flow.fuo.in;obtain⟨W1,h1⟩:=nmd (W.alloc (.cells #[.int .i64 s.ti,.int .i64 s.it,.bool s.cl,.slice (some ⟨bb,0,none⟩) s.bx.length s.bx.length,.slice eo s.em.length ec,.slice fo s.fa.length fc,.slice uo s.fu.length uc] 48));have hb1:Below W.1.size W W1:=by rw[h1];exact Zk _ _
 have XP:Bx W1 W.1.size [.int .i64 s.ti,.int .i64 s.it,.bool s.cl,.slice (some ⟨bb,0,none⟩) s.bx.length s.bx.length,.slice eo s.em.length ec,.slice fo s.fa.length fc,.slice uo s.fu.length uc]:=by rw[h1];exact Bx.new [.int .i64 s.ti,.int .i64 s.it,.bool s.cl,.slice (some ⟨bb,0,none⟩) s.bx.length s.bx.length,.slice eo s.em.length ec,.slice fo s.fa.length fc,.slice uo s.fu.length uc] _ rfl
 have H1:=Zd h1;have P1:=Zd (h.later hb1);have HB1:=Zd hb1;have HQW:Zi (q≤W.1.size):=Nat.le_of_lt h.box.size;have EI:=Zd (hEI.later hb1);have FI:=Zd (hFI.later hb1);have BI:=Zd (FrTT.in (show FrTT bb W.1.size W (some ⟨bb,0,none⟩) s.bx.length s.bx from⟨_,h.flow.hnd.fr⟩)|>.later hb1);have c1:=h.box.c 1 rfl;have cz:=h.box.size;have p1:=h.flow.box.c 1 rfl;have p2:=h.flow.box.c 2 rfl;have p3:=h.flow.box.c 3 rfl;have p4:=h.flow.box.c 4 rfl;have p5:=h.flow.box.c 5 rfl;have p6:=h.flow.box.c 6 rfl;have p7:=h.flow.box.c 7 rfl;have pz:=h.flow.box.size;rw[he]at p5;rw[hf]at p6;rw[hu]at p7;have HXP:=Zd XP;have HRW:=Zd (h.sci.raw h.few);clear h h1 hb1 XP he hf hu hEI hFI;go_enter func112,ntmps112
 go_upto_region 2 with fail
 rw[←H1.o];clear H1 c1 cz p1 p2 p3 p4 p5 p6 p7 pz;obtain⟨x0,x1,x2,x3,x4,x5,x6⟩:=HXP.o.y7;have xz:=HXP.o.size;have HR64:Zi (∀t∈s.fa,Xi (Qv t)):=fun t ht=>(hR.fa t ht).row
 have HLS:Zi (∀k,(Qt ⟨#[108,111,115,116]⟩ ((s.fa.take k).map Qv)).size≤200000000):=fun k=>Mb (by decide) (by rw[List.length_map,List.length_take];have:s.fa.length≤900000:=(by have:=HRW.o.tot;omega);omega) (fun r hr=>by
  obtain⟨t,ht,rfl⟩:=List.mem_map.1 hr;exact⟨by simp[Qv],HR64.o t (List.mem_of_mem_take ht)⟩)
 have hll9:s.fa.length≤900000:=(by have:=HRW.o.tot;omega);clear hR;obtain⟨l,hl⟩:=nmd (s.fa);rw[←hl]at HR64 HLS hll9 FI x5 ⊢;have HL:=Zd hl;clear hl;go_wp2
 go_loopw [11,72] (fun u i wr=>∃k:Nat,k≤l.length∧i=.int .i64 k∧u=.string (Qt ⟨#[108,111,115,116]⟩ ((l.take k).map Qv))∧Zi (Below W1.1.size W1 wr)) (fun _ i _=>l.length-(intOf i).toNat)
 case atStart=>exact⟨0,Nat.zero_le _,rfl,by rw[List.take_zero,List.map_nil,Mc],Below.refl _ _⟩
 case round =>
  obtain⟨k,hk,rfl,rfl,hB⟩:=hrel;have hsz:=Zd (HLS.o k)
  by_cases hlt:k<l.length
  ·obtain⟨b,off,rfl,hb,hc⟩:=kLo_at FI.o hlt;obtain⟨d0,d1,d2,d3⟩:=hc k hlt;have e0:=(hB.o.cell (p:=⟨b,off+k*4,none⟩) hb).trans d0;have e1:=(hB.o.cell (p:=⟨b,off+k*4+1,none⟩) hb).trans d1;have e2:=(hB.o.cell (p:=⟨b,off+k*4+2,none⟩) hb).trans d2;have e3:=(hB.o.cell (p:=⟨b,off+k*4+3,none⟩) hb).trans d3;have hbz:b<wr.1.size:=Nat.lt_of_lt_of_le hb hB.o.size;have h64:=HR64.o (el l k) (Zl hlt);have hsn:Qt ⟨#[108,111,115,116]⟩ ((l.take (k+1)).map Qv)=Qt ⟨#[108,111,115,116]⟩ ((l.take k).map Qv)++(⟨#[32]⟩++Qm ⟨#[58]⟩ (Qv (el l k))):=by
    rw[Zy hlt,List.map_append,List.map_cons,List.map_nil,Tl]
   obtain⟨acc,hacc⟩:=nmd (Qt ⟨#[108,111,115,116]⟩ ((l.take k).map Qv));rw[←hacc]at hsn ⊢;have hal:acc.size≤200000000:=by rw[hacc];exact hsz.o
   obtain⟨t,ht⟩:=nmd (el l k);rw[←ht]at e0 e1 e2 e3 h64 hsn;obtain⟨a0,a1,a2,a3⟩:=t;dsimp only[Qv]at e0 e1 e2 e3 h64 hsn;rw[row_four]at hsn;have n0:=h64 a0 (by simp);have n1:=h64 a1 (by simp);have n2:=h64 a2 (by simp);have n3:=h64 a3 (by simp);have HN0:=Zd (fun W=>Jg a0 n0.1 n0.2 W);have s0:(tx (Lib.itoa a0)).size≤100:=Xq a0 n0.1 n0.2;have HN1:=Zd (fun W=>Jg a1 n1.1 n1.2 W);have s1:(tx (Lib.itoa a1)).size≤100:=Xq a1 n1.1 n1.2;have HN2:=Zd (fun W=>Jg a2 n2.1 n2.2 W);have s2:(tx (Lib.itoa a2)).size≤100:=Xq a2 n2.1 n2.2;have HN3:=Zd (fun W=>Jg a3 n3.1 n3.2 W);have s3:(tx (Lib.itoa a3)).size≤100:=Xq a3 n3.1 n3.2;obtain⟨t0,ht0⟩:=nmd (tx (Lib.itoa a0));obtain⟨t1,ht1⟩:=nmd (tx (Lib.itoa a1));obtain⟨t2,ht2⟩:=nmd (tx (Lib.itoa a2));obtain⟨t3,ht3⟩:=nmd (tx (Lib.itoa a3));rw[←ht0,←ht1,←ht2,←ht3]at hsn;rw[←ht0]at HN0 s0;rw[←ht1]at HN1 s1;rw[←ht2]at HN2 s2;rw[←ht3]at HN3 s3;have HSN:=Zd hsn;obtain⟨W2,h2⟩:=nmd (wr.alloc (.cells #[.int .i64 a0,.int .i64 a1,.int .i64 a2,.int .i64 a3] 141));have XV:Bx W2 wr.1.size [.int .i64 a0,.int .i64 a1,.int .i64 a2,.int .i64 a3]:=by rw[h2];exact Bx.new [.int .i64 a0,.int .i64 a1,.int .i64 a2,.int .i64 a3] _ rfl
   have hb2:Below wr.1.size wr W2:=by rw[h2];exact Zk _ _
   have H2:=Zd h2;have HX:=Zd XV;have HB2:=Zd (hB.o.trans (hb2.mono hB.o.size));clear hacc ht h64 hsn h2 XV hb2 ht0 ht1 ht2 ht3 n0 n1 n2 n3 d0 d1 d2 d3 hc hsz
   go_upto_region 20 with fail
   rw[←H2.o];clear H2 e0 e1 e2 e3;have hNE:=Vz W2;have x0:=HX.o.at 0 rfl;have x1:=HX.o.at 1 rfl;have x2:=HX.o.at 2 rfl;have x3:=HX.o.at 3 rfl;refine Qo W2 (by kernel_rfl) (by kernel_rfl) (Below.refl _ _) ?_
   repeat(go_big_quiet_step (first|(go_at_call 73;first|(with_reducible exact Calls.later (HN0.o _))|(with_reducible exact Calls.later (HN1.o _))|(with_reducible exact Calls.later (HN2.o _))|(with_reducible exact Calls.later (HN3.o _)))))
   refine wpQuiet_nil ?_;rintro w4 ⟨⟨w5,hb4⟩,hw5⟩;obtain rfl:w4=w5:=hw5;clear x0 x1 x2 x3 hNE;have HB4:=Zd (HB2.o.trans (hb4.mono HB2.o.size));clear hb4;go_wp2;go_roundw
   case rel=>exact⟨k+1,by omega,by go_num,by rw[HSN.o],HB4⟩
   case measure=>simp[intOf];omega
  ·obtain rfl:k=l.length:=by omega
   rw[List.take_length];obtain⟨T,hT⟩:=nmd (Qt ⟨#[108,111,115,116]⟩ (l.map Qv));rw[←hT];have HT:=Zd hT;have HB2:=Zd hB.o;clear hT;go_wp2;refine bodyPost_ret (v:=.string T) (by simp[results,results112,go_sem]) rfl ?_;exact⟨by rw[HT.o,HL.o],bb,xs,ev,fv,uv,P1.o.later HB2.o,(HB1.o.mono HQW.o).trans (HB2.o.mono (Nat.le_trans HQW.o HB1.o.size))⟩
theorem tells_mean(q:Nat)(W:World)(o:Option Addr)(c:Nat)(us:List LNode)(hi lo p bb:Nat)(xs:List Value)(ev fv uv:Value)(s:PP)(n:Nat)(h:QR q W o c us hi lo p bb xs ev fv uv s n)(go:Option Addr)(gc:Nat)(k v:Int)(hz:kI.In W.1.size W go ([k,v]:List Int)) :
  Calls prog 112 #[.pointer (some ⟨q,0,none⟩),.string ⟨#[109,101,97,110]⟩,.slice go 2 gc] W (Da q W o c us hi lo p (meanT (us.map Zz) k v) s n):=by
 obtain⟨eo,ec,he,_,hEI⟩:=h.flow.emo.in;obtain⟨fo,fc,hf,_,hFI⟩:=h.flow.fao.in;obtain⟨uo,uc,hu,_,_⟩:=h.flow.fuo.in;obtain⟨W1,h1⟩:=nmd (W.alloc (.cells #[.int .i64 s.ti,.int .i64 s.it,.bool s.cl,.slice (some ⟨bb,0,none⟩) s.bx.length s.bx.length,.slice eo s.em.length ec,.slice fo s.fa.length fc,.slice uo s.fu.length uc] 48));have hb1:Below W.1.size W W1:=by rw[h1];exact Zk _ _
 have XP:Bx W1 W.1.size [.int .i64 s.ti,.int .i64 s.it,.bool s.cl,.slice (some ⟨bb,0,none⟩) s.bx.length s.bx.length,.slice eo s.em.length ec,.slice fo s.fa.length fc,.slice uo s.fu.length uc]:=by rw[h1];exact Bx.new [.int .i64 s.ti,.int .i64 s.it,.bool s.cl,.slice (some ⟨bb,0,none⟩) s.bx.length s.bx.length,.slice eo s.em.length ec,.slice fo s.fa.length fc,.slice uo s.fu.length uc] _ rfl
 have H1:=Zd h1;have P1:=Zd (h.later hb1);have HB1:=Zd hb1;have HQW:Zi (q≤W.1.size):=Nat.le_of_lt h.box.size;have EI:=Zd (hEI.later hb1);have FI:=Zd (hFI.later hb1);have BI:=Zd (FrTT.in (show FrTT bb W.1.size W (some ⟨bb,0,none⟩) s.bx.length s.bx from⟨_,h.flow.hnd.fr⟩)|>.later hb1);have c1:=h.box.c 1 rfl;have cz:=h.box.size;have p1:=h.flow.box.c 1 rfl;have p2:=h.flow.box.c 2 rfl;have p3:=h.flow.box.c 3 rfl;have p4:=h.flow.box.c 4 rfl;have p5:=h.flow.box.c 5 rfl;have p6:=h.flow.box.c 6 rfl;have p7:=h.flow.box.c 7 rfl;have pz:=h.flow.box.size;rw[he]at p5;rw[hf]at p6;rw[hu]at p7;have HXP:=Zd XP;have HRW:=Zd (h.sci.raw h.few);obtain⟨nb,noff,rfl,hnb,hnc⟩:=Zo hz (k:=0) (by simp);have d0:W1.cell? ⟨nb,noff,none⟩=some (.int .i64 k):=(hb1.cell (p:=⟨nb,noff,none⟩) hnb).trans (hnc 0 (by simp));have d1:W1.cell? ⟨nb,noff+1,none⟩=some (.int .i64 v):=(hb1.cell (p:=⟨nb,noff+1,none⟩) hnb).trans (hnc 1 (by simp));have HNB:Zi (nb<W1.1.size):=Nat.lt_of_lt_of_le hnb hb1.size;have D0:=Zd d0;have D1:=Zd d1;clear hz hnc d0 d1;clear h h1 hb1 XP he hf hu hEI hFI;go_enter func112,ntmps112
 go_upto_region 2 with fail
 rw[←H1.o];clear H1 c1 cz p1 p2 p3 p4 p5 p6 p7 pz;have HC:=Zd (specMean_is o c us k v W1.drew (P1.o.fit.roomy (P1.o.later (Below.refl _ W1).drew).gr) (P1.o.later (Below.refl _ W1).drew).gr.in);have C0:Zi (W1.cell? ⟨q,0,none⟩=some (.slice o us.length c)∧W1.cell? ⟨nb,noff,none⟩=some (.int .i64 k)∧W1.cell? ⟨nb,noff+1,none⟩=some (.int .i64 v)):=⟨P1.o.box.c 0 rfl,D0.o,D1.o⟩;have HQ1:Zi (q<W1.1.size):=P1.o.box.size;have HL:=Zd (My (us.map Zz) k v);have H64:=Zd (meanR_row (us.map Zz) k v);obtain⟨R,hR⟩:=nmd (Xy (us.map Zz) k v);have HT:Zi (meanT (us.map Zz) k v=if R.2=true then Qt ⟨#[109,101,97,110]⟩ (R.1.map Qj)else noT):=by rw[Zi,hR];rfl
 rw[←hR]at HC HL H64;clear hR
 go_upto_region 23 with fail
 refine Qq (zl:=[15]) (S:=fun Y=>Y.cell? ⟨q,0,none⟩=some (.slice o us.length c)∧Y.cell? ⟨nb,noff,none⟩=some (.int .i64 k)∧Y.cell? ⟨nb,noff+1,none⟩=some (.int .i64 v)) (by kernel_rfl) C0.o (fun hH=>?_);refine Zq 0 hH ?_;refine Zq 1 hH ?_;refine Zq 2 hH ?_;refine Zq 3 hH ?_;refine Zq 4 hH ?_;refine Zq 5 hH ?_;refine Zq 6 hH ?_;refine Zq 7 hH ?_;refine Zq 8 hH ?_;refine Zq 9 hH ?_;refine Walks.on 10 fun K hK=>?_
 go_simp;refine HC.o.mono ?_;rintro e w2 ⟨⟨ro,rc,rfl,hF⟩,hb2⟩;have hbx:Below W1.1.size W1 w2:=(Below.refl _ W1).drew.trans hb2;have E3:Zi (w2.cell? ⟨q,0,none⟩=some (.slice o us.length c)∧w2.cell? ⟨nb,noff,none⟩=some (.int .i64 k)∧w2.cell? ⟨nb,noff+1,none⟩=some (.int .i64 v)):=⟨(hbx.cell (p:=⟨q,0,none⟩) HQ1.o).trans C0.o.1,(hbx.cell (p:=⟨nb,noff,none⟩) HNB.o).trans C0.o.2.1,(hbx.cell (p:=⟨nb,noff+1,none⟩) HNB.o).trans C0.o.2.2⟩;have HB2:=Zd hbx;have HF:=Zd hF.in;clear hb2 hbx HC hF;refine hK.out _ _ (fun _=>E3.o) (fun _=>?_);clear hK K;refine Walks.on 11 fun K hK=>?_
 go_simp;refine hK.out _ _ (fun _=>E3.o) (fun hH=>?_);clear hK K;refine Zq 13 E3.o ?_;refine Walks.on 12 fun K hK=>?_
 go_simp;refine hK.out _ _ (fun _=>E3.o) (fun hH=>?_);clear hK K;refine Walks.on 14 fun K hK=>?_
 go_simp;refine hK.out _ _ (fun _=>E3.o) (fun hH=>?_);clear hK K;refine Walks.on 15 fun K hK=>?_
 go_simp;refine hK.out _ _ (fun _=>E3.o) (fun hH=>?_);clear hK K;refine Walks.done (by kernel_rfl) ?_ _;obtain⟨l,R2⟩:=R;dsimp only at HL H64 HT HF ⊢
 cases R2 with
 |false =>
  go_wp2;refine bodyPost_ret (v:=.string ⟨#[110,111]⟩) (by simp[results,results112,go_sem]) rfl ?_;exact⟨by rw[HT.o,if_neg (by decide)];rfl,bb,xs,ev,fv,uv,P1.o.later HB2.o,(HB1.o.mono HQW.o).trans (HB2.o.mono (Nat.le_trans HQW.o HB1.o.size))⟩
 |true =>
  have HTT:Zi (meanT (us.map Zz) k v=Qt ⟨#[109,101,97,110]⟩ (l.map Qj)):=by rw[Zi,HT.o,if_pos rfl]
  have hll9:l.length≤400:=HL.o;have HR64:Zi (∀t∈l,Xi (Qj t)):=H64.o;have HLS:Zi (∀k,(Qt ⟨#[109,101,97,110]⟩ ((l.take k).map Qj)).size≤200000000):=fun k=>Mb (by decide) (by rw[List.length_map,List.length_take];have:=HL.o;omega) (fun r hr=>by
   obtain⟨t,ht,rfl⟩:=List.mem_map.1 hr;exact⟨by simp[Qj],HR64.o t (List.mem_of_mem_take ht)⟩)
  go_wp2
  go_loopw [16,117] (fun u i wr=>∃k2:Nat,k2≤l.length∧i=.int .i64 k2∧u=.string (Qt ⟨#[109,101,97,110]⟩ ((l.take k2).map Qj))∧Zi (Below w2.1.size w2 wr)) (fun _ i _=>l.length-(intOf i).toNat)
  case atStart=>exact⟨0,Nat.zero_le _,rfl,by rw[List.take_zero,List.map_nil,Mc],Below.refl _ _⟩
  case round =>
   obtain⟨k2,hk,rfl,rfl,hB⟩:=hrel;have hsz:=Zd (HLS.o k2)
   by_cases hlt:k2<l.length
   ·obtain⟨b,off,rfl,hb,hc⟩:=kE_at HF.o hlt;obtain⟨d0,d1⟩:=hc k2 hlt;have e0:=(hB.o.cell (p:=⟨b,off+k2*2,none⟩) hb).trans d0;have e1:=(hB.o.cell (p:=⟨b,off+k2*2+1,none⟩) hb).trans d1;have hbz:b<wr.1.size:=Nat.lt_of_lt_of_le hb hB.o.size;have h64:=HR64.o (el l k2) (Zl hlt);have hsn:Qt ⟨#[109,101,97,110]⟩ ((l.take (k2+1)).map Qj)=Qt ⟨#[109,101,97,110]⟩ ((l.take k2).map Qj)++(⟨#[32]⟩++Qm ⟨#[58]⟩ (Qj (el l k2))):=by
     rw[Zy hlt,List.map_append,List.map_cons,List.map_nil,Tl]
    obtain⟨acc,hacc⟩:=nmd (Qt ⟨#[109,101,97,110]⟩ ((l.take k2).map Qj));rw[←hacc]at hsn ⊢;have hal:acc.size≤200000000:=by rw[hacc];exact hsz.o
    obtain⟨t,ht⟩:=nmd (el l k2);rw[←ht]at e0 e1 h64 hsn;obtain⟨a0,a1⟩:=t;dsimp only[Qj]at e0 e1 h64 hsn;rw[row_two]at hsn;have n0:=h64 a0 (by simp);have n1:=h64 a1 (by simp);have HN0:=Zd (fun W=>Jg a0 n0.1 n0.2 W);have s0:(tx (Lib.itoa a0)).size≤100:=Xq a0 n0.1 n0.2;have HN1:=Zd (fun W=>Jg a1 n1.1 n1.2 W);have s1:(tx (Lib.itoa a1)).size≤100:=Xq a1 n1.1 n1.2;obtain⟨t0,ht0⟩:=nmd (tx (Lib.itoa a0));obtain⟨t1,ht1⟩:=nmd (tx (Lib.itoa a1));rw[←ht0,←ht1]at hsn;rw[←ht0]at HN0 s0;rw[←ht1]at HN1 s1;have HSN:=Zd hsn;obtain⟨W2,h2⟩:=nmd (wr.alloc (.cells #[.int .i64 a0,.int .i64 a1] 199));have XV:Bx W2 wr.1.size [.int .i64 a0,.int .i64 a1]:=by rw[h2];exact Bx.new [.int .i64 a0,.int .i64 a1] _ rfl
    have hb2:Below wr.1.size wr W2:=by rw[h2];exact Zk _ _
    have H2:=Zd h2;have HX:=Zd XV;have HB5:=Zd (hB.o.trans (hb2.mono hB.o.size));clear hacc ht h64 hsn h2 XV hb2 ht0 ht1 n0 n1 d0 d1 hc hsz
    go_upto_region 30 with fail
    rw[←H2.o];clear H2 e0 e1;have hNE:=Vz W2;have x0:=HX.o.at 0 rfl;have x1:=HX.o.at 1 rfl;refine Qo W2 (by kernel_rfl) (by kernel_rfl) (Below.refl _ _) ?_
    repeat(go_big_quiet_step (first|(go_at_call 73;first|(with_reducible exact Calls.later (HN0.o _))|(with_reducible exact Calls.later (HN1.o _)))))
    refine wpQuiet_nil ?_;rintro w4 ⟨⟨w5,hb4⟩,hw5⟩;obtain rfl:w4=w5:=hw5;clear x0 x1 hNE;have HB4:=Zd (HB5.o.trans (hb4.mono HB5.o.size));clear hb4;go_wp2;go_roundw
    case rel=>exact⟨k2+1,by omega,by go_num,by rw[HSN.o],HB4⟩
    case measure=>simp[intOf];omega
   ·obtain rfl:k2=l.length:=by omega
    rw[List.take_length];clear HT;obtain⟨T,hT⟩:=nmd (Qt ⟨#[109,101,97,110]⟩ (l.map Qj));rw[←hT];have HT:=Zd hT;have HB6:=Zd hB.o;clear hT;go_wp2;refine bodyPost_ret (v:=.string T) (by simp[results,results112,go_sem]) rfl ?_;exact⟨by rw[HTT.o,HT.o],bb,xs,ev,fv,uv,P1.o.later (HB2.o.trans (HB6.o.mono HB2.o.size)),(HB1.o.mono HQW.o).trans ((HB2.o.trans (HB6.o.mono HB2.o.size)).mono (Nat.le_trans HQW.o HB1.o.size))⟩
def Qe(x:ByteArray):Nat→Int
 |0=>0
 |k+1=>if 0<k∧x=Qs (k:Int)then(k:Int)else Qe x k
theorem kindAt_five(x:ByteArray):Qe x 5=match Fz x with|some k=>k|none=>0:=by
 by_cases h0:x=Qs ((0:Nat):Int)
 ·subst h0;decide
 by_cases h1:x=Qs ((1:Nat):Int)
 ·subst h1;decide
 by_cases h2:x=Qs ((2:Nat):Int)
 ·subst h2;decide
 by_cases h3:x=Qs ((3:Nat):Int)
 ·subst h3;decide
 by_cases h4:x=Qs ((4:Nat):Int)
 ·subst h4;decide
 rw[Ce fun j hj=>by
  rcases(show j=0∨j=1∨j=2∨j=3∨j=4 from by omega)with rfl|rfl|rfl|rfl|rfl
  ·exact h0
  ·exact h1
  ·exact h2
  ·exact h3
  ·exact h4]
 have g1:x≠Qs 1:=h1;have g2:x≠Qs 2:=h2;have g3:x≠Qs 3:=h3;have g4:x≠Qs 4:=h4
 simp[Qe,g1,g2,g3,g4]
theorem kindO_word{x:ByteArray}{k:Int}(h:Fz x=some k):x=Qs k:=by
 unfold Fz at h
 split at h
 ·next e=>obtain rfl:0=k:=Option.some.inj h;rw[e];rfl
 ·split at h
  ·next e=>obtain rfl:1=k:=Option.some.inj h;exact e
  ·split at h
   ·next e=>obtain rfl:2=k:=Option.some.inj h;exact e
   ·split at h
    ·next e=>obtain rfl:3=k:=Option.some.inj h;exact e
    ·split at h
     ·next e=>obtain rfl:4=k:=Option.some.inj h;exact e
     ·cases h
theorem hasT_kind{nm:ByteArray}{kd sa sb cp:Int}{nx:List Int}(h:hasT nm kd sa sb cp nx=true):kd≠0:=by
 obtain⟨j,h1,h2,rfl⟩:=(Lv h).kin
 omega
theorem Hr{s:ByteArray}{n:Int}(h:Wn s.data.toList=some n):s=tx (Lib.itoa n):=by
 have:=(Mu h).1
 apply Hd
 rw[this];rfl
theorem Fi:∀{ws:List ByteArray}{l:List Int},Jm ws=some l→ws=Yx l
 | [],l,h=>by obtain rfl:[]=l:=Option.some.inj h;rfl
 |x::r,l,h=>by
  rw[Jm]at h
  cases hx:Wn x.data.toList with
  |none=>rw[hx]at h;cases h
  |some n =>
   rw[hx]at h;dsimp only at h
   cases hr:Jm r with
   |none=>rw[hr]at h;cases h
   |some b =>
    rw[hr]at h;obtain rfl:n::b=l:=Option.some.inj h;rw[Hr hx,Fi hr];rfl
theorem next_text{s:ByteArray}{nx:List Int}(h:Wo s=(nx,true)):s=Rx nx:=by
 unfold Wo at h
 split at h
 ·next e =>
  obtain rfl:[]=nx:=by simpa using h
  rw[e];rfl
 ·cases hn:Jm (Zw s 44)with
  |none=>rw[Rj hn]at h;simp at h
  |some l =>
   rw[Gz hn]at h;obtain rfl:l=nx:=by simpa using h
   have hw:=Fi hn;have hj:=Pk s 44;have e44:((44:UInt8).toNat:Int)=44:=rfl;rw[e44,hw]at hj;have hp:=Jd s 44;rw[e44,hw,Gj]at hp;rw[Rx,if_neg (by omega)];exact hj.symm
theorem Lo(kd sa sb:Int):Hk kd sa sb=Wv [Qs kd,tx (Lib.itoa sa),tx (Lib.itoa sb)] ⟨#[58]⟩:=by
 apply Hd
 simp only[Hk,Qm,Yx,ba_app,Xx,List.map_cons,List.map_nil,Lib.join_cons,Lib.joinTail,List.flatten_cons,List.flatten_nil,List.append_nil,List.append_assoc]
theorem itoa_free{n:Int}{m:UInt8}(hm:m≠45)(hd:Ug m=false):m∉Lib.itoa n:=by
 have hdec:∀u,m∉Lib.decDigits u:=fun u h=>by rw[Pi u m h]at hd;cases hd
 unfold Lib.itoa
 split
 ·intro h
  rcases List.mem_cons.1 h with h|h
  ·exact hm h
  ·exact hdec _ h
 ·exact hdec _
theorem Hv{m:UInt8}{sep:List UInt8}(hs:m∉sep):∀{r:List (List UInt8)},(∀x∈r,m∉x)→m∉Lib.joinTail sep r
 | [],_=>by simp[Lib.joinTail]
 |x::r,h=>by
  have ih:=Hv hs (r:=r) fun y hy=>h y (by simp[hy])
  simp only[Lib.joinTail,List.map_cons,List.flatten_cons,List.mem_append,not_or]at ih ⊢;exact⟨⟨hs,h x (by simp)⟩,ih⟩
theorem mem_joinB{m:UInt8}{sep:ByteArray}(hs:m∉sep.data.toList){r:List ByteArray}(h:∀x∈r,m∉x.data.toList):m∉(Wv r sep).data.toList:=by
 rw[Xx]
 cases r with
 |nil=>simp[Lib.join_nil]
 |cons x r =>
  rw[List.map_cons,Lib.join_cons,List.mem_append,not_or];refine⟨h x (by simp),Hv hs fun y hy=>?_⟩;obtain⟨z,hz,rfl⟩:=List.mem_map.1 hy;exact h z (by simp[hz])
theorem tx_free{n:Int}{m:UInt8}(hm:m≠45)(hd:Ug m=false):m∉(tx (Lib.itoa n)).data.toList:=by
 have:=itoa_free (n:=n) hm hd
 simpa[tx]using this
theorem stageT_free(kd sa sb:Int):(32:UInt8)∉(Hk kd sa sb).data.toList:=by
 rw[Lo];refine mem_joinB (by decide) fun x hx=>?_
 simp only[List.mem_cons,List.not_mem_nil,or_false]at hx
 rcases hx with rfl|rfl|rfl
 ·unfold Qs
  split
  ·decide
  ·split
   ·decide
   ·split
    ·decide
    ·split <;> decide
 ·exact tx_free (by decide) (by decide)
 ·exact tx_free (by decide) (by decide)
theorem nextT_free(nx:List Int):(32:UInt8)∉(Rx nx).data.toList:=by
 unfold Rx
 split
 ·decide
 ·refine mem_joinB (by decide) fun x hx=>?_
  obtain⟨z,_,rfl⟩:=List.mem_map.1 hx;exact tx_free (by decide) (by decide)
theorem name_free{nm:ByteArray}(h:Yv nm=true):(32:UInt8)∉nm.data.toList:=by
 intro hm;obtain⟨k,hk,e⟩:=List.getElem_of_mem hm;have hk':k<nm.size:=by rw[Array.length_toList]at hk;exact hk
 have e2:nm[k]'hk'=32:=e;have:Yv nm=false:=Yp hk' (by rw[Kh hk',e2];decide);rw[h]at this;cases this
theorem node_parts{nm:ByteArray}{kd sa sb cp:Int}{nx:List Int}(h:Yv nm=true):Zw (Gk nm kd sa sb cp nx) 32=[⟨#[110,111,100,101]⟩,nm,Hk kd sa sb,tx (Lib.itoa cp),Rx nx]:=by
 have:=Dl (ps:=[⟨#[110,111,100,101]⟩,nm,Hk kd sa sb,tx (Lib.itoa cp),Rx nx]) (m:=32) (by simp) fun p hp=>by
  simp only[List.mem_cons,List.not_mem_nil,or_false]at hp
  rcases hp with rfl|rfl|rfl|rfl|rfl
  ·decide
  ·exact name_free h
  ·exact stageT_free _ _ _
  ·exact tx_free (by decide) (by decide)
  ·exact nextT_free _
 exact this
theorem hasT_name{nm:ByteArray}{kd sa sb cp:Int}{nx:List Int}(h:hasT nm kd sa sb cp nx=true):Yv nm=true:=by
 simp only[hasT,Bool.and_eq_true]at h;exact h.1
theorem readR_as{s:ByteArray}{s0 s1 s2 s3 s4 t0 t1 t2:ByteArray}{a b cp:Int}{nx:List Int}(h5:Zw s 32=[s0,s1,s2,s3,s4])(h3:Zw s2 58=[t0,t1,t2])(ha:Wn t1.data.toList=some a)(hb:Wn t2.data.toList=some b)(hc:Wn s3.data.toList=some cp)(hn:Wo s4=(nx,true)) :
  Kf s=if hasT s1 (Qe t0 5) a b cp nx=true∧Gk s1 (Qe t0 5) a b cp nx=s then((s1,Qe t0 5,a,b,cp,nx),true)else Wj:=by
 have hnums:Jm ([t0,t1,t2].drop 1)=some [a,b]:=by simp[Jm,ha,hb]
 have hst:=Xo hnums;have e0:el [t0,t1,t2] 0=t0:=rfl;rw[e0]at hst;have hnr:=Vx hc;have hsj:=Pk s 32;have e32:((32:UInt8).toNat:Int)=32:=rfl;rw[e32,h5]at hsj;have hs2:=Pk s2 58;have e58:((58:UInt8).toNat:Int)=58:=rfl;rw[e58,h3]at hs2
 unfold Kf
 rw[h5];have g0:el [s0,s1,s2,s3,s4] 0=s0:=rfl;have g1:el [s0,s1,s2,s3,s4] 1=s1:=rfl;have g2:el [s0,s1,s2,s3,s4] 2=s2:=rfl;have g3:el [s0,s1,s2,s3,s4] 3=s3:=rfl;have g4:el [s0,s1,s2,s3,s4] 4=s4:=rfl;rw[g0,g1,g2,g3,g4,h3,hn,hnr];have hkf:=kindAt_five t0
 by_cases hc1:hasT s1 (Qe t0 5) a b cp nx=true∧Gk s1 (Qe t0 5) a b cp nx=s
 ·rw[if_pos hc1];obtain⟨hh,hnb⟩:=hc1;have hp:=node_parts (kd:=Qe t0 5) (sa:=a) (sb:=b) (cp:=cp) (nx:=nx) (hasT_name hh);rw[hnb,h5]at hp;obtain rfl:s0=⟨#[110,111,100,101]⟩:=by simp only[List.cons.injEq]at hp;exact hp.1
  rw[if_pos ⟨rfl,rfl⟩];have hk0:=hasT_kind hh
  cases hko:Fz t0 with
  |none=>rw[hko]at hkf;exact absurd hkf hk0
  |some k =>
   rw[hko]at hst hkf;dsimp only at hst hkf;rw[hst,←hkf];dsimp only;rw[if_pos ⟨rfl,rfl,rfl,hh⟩]
 ·rw[if_neg hc1]
  by_cases hn0:s0=⟨#[110,111,100,101]⟩
  ·rw[if_pos ⟨rfl,hn0⟩]
   cases hko:Fz t0 with
   |none =>
    rw[hko]at hst;rw[hst,if_neg (fun h=>by cases h.1)]
   |some k =>
    rw[hko]at hst hkf;dsimp only at hst hkf;rw[hst];dsimp only;rw[if_neg];rintro⟨_,_,_,hh⟩;refine hc1 ⟨by rw[hkf];exact hh,?_⟩;rw[hkf,←hsj,hn0];have w0:=kindO_word hko;have w1:=Hr ha;have w2:=Hr hb;have w3:=Hr hc;have w4:=next_text hn;have w5:s2=Hk k a b:=by rw[Lo,←w0,←w1,←w2,hs2]
    rw[Gk,←w5,←w3,←w4]
  ·rw[if_neg (fun h=>hn0 h.2)]
theorem readR_five{s:ByteArray}(h:(Zw s 32).length≠5):Kf s=Wj:=by rw[Kf,if_neg (fun h2=>h h2.1)]
theorem Mz{s:ByteArray}(h:(Jy (Zw (el (Zw s 32) 2) 58)).2=false):Kf s=Wj:=by
 unfold Kf
 split
 ·rw[if_neg (fun h2=>by rw[h]at h2;cases h2.1)]
 ·rfl
theorem readR_num{s:ByteArray}(h:(Tf (el (Zw s 32) 3)).2=false):Kf s=Wj:=by
 unfold Kf
 split
 ·rw[if_neg (fun h2=>by rw[h]at h2;cases h2.2.1)]
 ·rfl
theorem readR_next{s:ByteArray}(h:(Wo (el (Zw s 32) 4)).2=false):Kf s=Wj:=by
 unfold Kf
 split
 ·rw[if_neg (fun h2=>by rw[h]at h2;cases h2.2.2.1)]
 ·rfl
theorem stage_three{ps:List ByteArray}(hp:0<ps.length)(h:ps.length≠3):(Jy ps).2=false:=by
 cases hn:Jm (ps.drop 1)with
 |none=>rw[Pz hn]
 |some l=>rw[Fc hn (by have:=Vd hn;rw[List.length_drop]at this;omega)]
theorem stage_num{t0 t1 t2:ByteArray}(h:Wn t1.data.toList=none∨Wn t2.data.toList=none):(Jy [t0,t1,t2]).2=false:=by
 have hn:Jm ([t0,t1,t2].drop 1)=none:=by
  rcases h with h|h
  ·exact Vs (x:=t1) (by simp) h
  ·exact Vs (x:=t2) (by simp) h
 rw[Pz hn]
end Go.Proofs.YtdacedbfnlkghaaGreatDoor