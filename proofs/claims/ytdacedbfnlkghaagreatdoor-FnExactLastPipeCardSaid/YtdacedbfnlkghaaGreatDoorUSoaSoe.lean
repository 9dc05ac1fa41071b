/- What is asked of a script's pipe: the program. What a value means, and a command obeyed: the program. A command obeyed, whole: the program. A command read, where the row has no more room: the program. A command read, where the row has more room: the program. A line answered: the program. No conditions but those written. -/
import Derived.Test.YtdacedbfnlkghaaGreatDoorUIcSmv
import Derived.Test.YtdacedbfnlkghaaGreatDoorURniSrg
namespace Go.Proofs.YtdacedbfnlkghaaGreatDoor
set_option maxHeartbeats 8000000
set_option maxRecDepth 100000
open Go.RowKit Go.Proofs.Tryz
theorem FitR.few{us:List LNode}(h:FitR us):FitN us:=fun a ha=>by have:=h.2 a ha;omega
theorem obey_rep(n0 q:Nat)(W:World)(o:Option Addr)(c:Nat)(us:List LNode)(hi lo p bb:Nat)(so:Option Addr)(sc:Nat)(xs:List Value)(ev fv uv:Value)(s:PP)(n:Nat)(ea:Nat→Addr)(go:Option Addr)(gn gc:Nat)(h:PR q W o c us hi lo p bb so sc xs ev fv uv s n)(hV:Env n0 W ea)(hn:n0≤q) :
  Calls prog 105 #[.pointer (some ⟨q,0,none⟩),.int .i64 8,.slice go gn gc] W (Db q W o c us hi lo p so sc (OR q p bb xs ev fv uv) (repP s.it s.em.length s.fa.length (Zs s.bx) s.cl) s n):=by
 obtain⟨eo,ec,he,_,hEI⟩:=h.flow.emo.in;obtain⟨fo,fc,hf,_,hFI⟩:=h.flow.fao.in;obtain⟨uo,uc,hu,_,_⟩:=h.flow.fuo.in;obtain⟨W1,h1⟩:=nmd (W.alloc (.cells #[.int .i64 s.ti,.int .i64 s.it,.bool s.cl,.slice (some ⟨bb,0,none⟩) s.bx.length s.bx.length,.slice eo s.em.length ec,.slice fo s.fa.length fc,.slice uo s.fu.length uc] 48));have hb1:Below W.1.size W W1:=by rw[h1];exact Zk _ _
 have XP:Bx W1 W.1.size [.int .i64 s.ti,.int .i64 s.it,.bool s.cl,.slice (some ⟨bb,0,none⟩) s.bx.length s.bx.length,.slice eo s.em.length ec,.slice fo s.fa.length fc,.slice uo s.fu.length uc]:=by rw[h1];exact Bx.new [.int .i64 s.ti,.int .i64 s.it,.bool s.cl,.slice (some ⟨bb,0,none⟩) s.bx.length s.bx.length,.slice eo s.em.length ec,.slice fo s.fa.length fc,.slice uo s.fu.length uc] _ rfl
 have H1:=Zd h1;have P1:=Zd (h.later hb1);have hqW:q<W.1.size:=h.box.size;have S1:=Zd (SStep.of_below (n:=q) (O:=OR q p bb xs ev fv uv) hb1 (Nat.le_of_lt hqW));have V1:=Zd (hV.step (hb1.mono (Nat.le_of_lt (Nat.lt_of_le_of_lt hn hqW))));have EI:=Zd (hEI.later hb1);have FI:=Zd (hFI.later hb1);have BI:=Zd (FrTT.in (show FrTT bb W.1.size W (some ⟨bb,0,none⟩) s.bx.length s.bx from⟨_,h.flow.hnd.fr⟩)|>.later hb1);have c3:=h.box.c 3 rfl;have cz:=h.box.size;have p2:=h.flow.box.c 2 rfl;have p3:=h.flow.box.c 3 rfl;have p4:=h.flow.box.c 4 rfl;have p5:=h.flow.box.c 5 rfl;have p6:=h.flow.box.c 6 rfl;have p7:=h.flow.box.c 7 rfl;have p8:=h.flow.box.c 8 rfl;have pz:=h.flow.box.size;rw[he]at p6;rw[hf]at p7;rw[hu]at p8;have HXP:=Zd XP;have HRW:=Zd (h.sci.raw h.few);clear h hV h1 hb1 XP he hf hu hEI hFI;go_enter func105,ntmps105
 go_upto_region 2 with fail
 rw[←H1.o];clear H1 c3 cz p2 p3 p4 p5 p6 p7 p8 pz;obtain⟨x0,x1,x2,x3,x4,x5,x6⟩:=HXP.o.y7;have xz:=HXP.o.size;have HC:=Zd (implReport_is s.ti s.it s.cl (some ⟨bb,0,none⟩) s.bx.length s.bx eo s.em.length ec fo s.fa.length fc uo s.fu.length uc W1 (by have:=HRW.o.it0;omega) (by have:=HRW.o.it1;omega) (by have:=HRW.o.em;omega) (by have:=HRW.o.tot;omega) ⟨by have:=HRW.o.len;have:=P1.o.fit.1;rw[Zb]at *;omega,by have:=HRW.o.tot;omega⟩ BI.o V1.o.now.1);obtain⟨T,hT⟩:=nmd (repP s.it s.em.length s.fa.length (Zs s.bx) s.cl);rw[←hT]at HC;have HT:=Zd hT;clear hT;go_wp2_with fail;refine HC.o.mono ?_;rintro e w2 ⟨rfl,hb2⟩;have HB2:=Zd hb2;clear hb2 HC x0 x1 x2 x3 x4 x5 x6 xz;go_wp2;refine bodyPost_ret (v:=.string T) (by simp[results,results105,go_sem]) rfl ?_;exact⟨by rw[HT.o],bb,xs,ev,fv,uv,P1.o.later HB2.o,S1.o.trans (SStep.of_below HB2.o (Nat.le_of_lt P1.o.box.size))⟩
theorem obey_out(n0 q:Nat)(W:World)(o:Option Addr)(c:Nat)(us:List LNode)(hi lo p bb:Nat)(so:Option Addr)(sc:Nat)(xs:List Value)(ev fv uv:Value)(s:PP)(n:Nat)(ea:Nat→Addr)(go:Option Addr)(gn gc:Nat)(h:PR q W o c us hi lo p bb so sc xs ev fv uv s n)(hV:Env n0 W ea)(hn:n0≤q)(hR:RgI s) :
  Calls prog 105 #[.pointer (some ⟨q,0,none⟩),.int .i64 9,.slice go gn gc] W (Db q W o c us hi lo p so sc (OR q p bb xs ev fv uv) (Qt ⟨#[111,117,116]⟩ (s.em.map Jj)) s n):=by
 obtain⟨eo,ec,he,_,hEI⟩:=h.flow.emo.in;obtain⟨fo,fc,hf,_,hFI⟩:=h.flow.fao.in;obtain⟨uo,uc,hu,_,_⟩:=h.flow.fuo.in;obtain⟨W1,h1⟩:=nmd (W.alloc (.cells #[.int .i64 s.ti,.int .i64 s.it,.bool s.cl,.slice (some ⟨bb,0,none⟩) s.bx.length s.bx.length,.slice eo s.em.length ec,.slice fo s.fa.length fc,.slice uo s.fu.length uc] 48));have hb1:Below W.1.size W W1:=by rw[h1];exact Zk _ _
 have XP:Bx W1 W.1.size [.int .i64 s.ti,.int .i64 s.it,.bool s.cl,.slice (some ⟨bb,0,none⟩) s.bx.length s.bx.length,.slice eo s.em.length ec,.slice fo s.fa.length fc,.slice uo s.fu.length uc]:=by rw[h1];exact Bx.new [.int .i64 s.ti,.int .i64 s.it,.bool s.cl,.slice (some ⟨bb,0,none⟩) s.bx.length s.bx.length,.slice eo s.em.length ec,.slice fo s.fa.length fc,.slice uo s.fu.length uc] _ rfl
 have H1:=Zd h1;have P1:=Zd (h.later hb1);have hqW:q<W.1.size:=h.box.size;have S1:=Zd (SStep.of_below (n:=q) (O:=OR q p bb xs ev fv uv) hb1 (Nat.le_of_lt hqW));have V1:=Zd (hV.step (hb1.mono (Nat.le_of_lt (Nat.lt_of_le_of_lt hn hqW))));have EI:=Zd (hEI.later hb1);have FI:=Zd (hFI.later hb1);have BI:=Zd (FrTT.in (show FrTT bb W.1.size W (some ⟨bb,0,none⟩) s.bx.length s.bx from⟨_,h.flow.hnd.fr⟩)|>.later hb1);have c3:=h.box.c 3 rfl;have cz:=h.box.size;have p2:=h.flow.box.c 2 rfl;have p3:=h.flow.box.c 3 rfl;have p4:=h.flow.box.c 4 rfl;have p5:=h.flow.box.c 5 rfl;have p6:=h.flow.box.c 6 rfl;have p7:=h.flow.box.c 7 rfl;have p8:=h.flow.box.c 8 rfl;have pz:=h.flow.box.size;rw[he]at p6;rw[hf]at p7;rw[hu]at p8;have HXP:=Zd XP;have HRW:=Zd (h.sci.raw h.few);clear h hV h1 hb1 XP he hf hu hEI hFI;go_enter func105,ntmps105
 go_upto_region 2 with fail
 rw[←H1.o];clear H1 c3 cz p2 p3 p4 p5 p6 p7 p8 pz;obtain⟨x0,x1,x2,x3,x4,x5,x6⟩:=HXP.o.y7;have xz:=HXP.o.size;have HC:=Zd (listOut_is eo ec s.em ⟨#[111,117,116]⟩ W1 (by have:=HRW.o.em;have:=HRW.o.tot;omega) (by decide) (fun t ht=>(hR.em t ht).row) EI.o V1.o.now.1);obtain⟨T,hT⟩:=nmd (Qt ⟨#[111,117,116]⟩ (s.em.map Jj));rw[←hT]at HC;have HT:=Zd hT;clear hT;go_wp2_with fail;refine HC.o.mono ?_;rintro e w2 ⟨rfl,hb2⟩;have HB2:=Zd hb2;clear hb2 HC x0 x1 x2 x3 x4 x5 x6 xz;go_wp2;refine bodyPost_ret (v:=.string T) (by simp[results,results105,go_sem]) rfl ?_;exact⟨by rw[HT.o],bb,xs,ev,fv,uv,P1.o.later HB2.o,S1.o.trans (SStep.of_below HB2.o (Nat.le_of_lt P1.o.box.size))⟩
theorem obey_lost(n0 q:Nat)(W:World)(o:Option Addr)(c:Nat)(us:List LNode)(hi lo p bb:Nat)(so:Option Addr)(sc:Nat)(xs:List Value)(ev fv uv:Value)(s:PP)(n:Nat)(ea:Nat→Addr)(go:Option Addr)(gn gc:Nat)(h:PR q W o c us hi lo p bb so sc xs ev fv uv s n)(hV:Env n0 W ea)(hn:n0≤q)(hR:RgI s) :
  Calls prog 105 #[.pointer (some ⟨q,0,none⟩),.int .i64 10,.slice go gn gc] W (Db q W o c us hi lo p so sc (OR q p bb xs ev fv uv) (Qt ⟨#[108,111,115,116]⟩ (s.fa.map Qv)) s n):=by
 obtain⟨eo,ec,he,_,hEI⟩:=h.flow.emo.in;obtain⟨fo,fc,hf,_,hFI⟩:=h.flow.fao.in;obtain⟨uo,uc,hu,_,_⟩:=h.flow.fuo.in;obtain⟨W1,h1⟩:=nmd (W.alloc (.cells #[.int .i64 s.ti,.int .i64 s.it,.bool s.cl,.slice (some ⟨bb,0,none⟩) s.bx.length s.bx.length,.slice eo s.em.length ec,.slice fo s.fa.length fc,.slice uo s.fu.length uc] 48));have hb1:Below W.1.size W W1:=by rw[h1];exact Zk _ _
 have XP:Bx W1 W.1.size [.int .i64 s.ti,.int .i64 s.it,.bool s.cl,.slice (some ⟨bb,0,none⟩) s.bx.length s.bx.length,.slice eo s.em.length ec,.slice fo s.fa.length fc,.slice uo s.fu.length uc]:=by rw[h1];exact Bx.new [.int .i64 s.ti,.int .i64 s.it,.bool s.cl,.slice (some ⟨bb,0,none⟩) s.bx.length s.bx.length,.slice eo s.em.length ec,.slice fo s.fa.length fc,.slice uo s.fu.length uc] _ rfl
 have H1:=Zd h1;have P1:=Zd (h.later hb1);have hqW:q<W.1.size:=h.box.size;have S1:=Zd (SStep.of_below (n:=q) (O:=OR q p bb xs ev fv uv) hb1 (Nat.le_of_lt hqW));have V1:=Zd (hV.step (hb1.mono (Nat.le_of_lt (Nat.lt_of_le_of_lt hn hqW))));have EI:=Zd (hEI.later hb1);have FI:=Zd (hFI.later hb1);have BI:=Zd (FrTT.in (show FrTT bb W.1.size W (some ⟨bb,0,none⟩) s.bx.length s.bx from⟨_,h.flow.hnd.fr⟩)|>.later hb1);have c3:=h.box.c 3 rfl;have cz:=h.box.size;have p2:=h.flow.box.c 2 rfl;have p3:=h.flow.box.c 3 rfl;have p4:=h.flow.box.c 4 rfl;have p5:=h.flow.box.c 5 rfl;have p6:=h.flow.box.c 6 rfl;have p7:=h.flow.box.c 7 rfl;have p8:=h.flow.box.c 8 rfl;have pz:=h.flow.box.size;rw[he]at p6;rw[hf]at p7;rw[hu]at p8;have HXP:=Zd XP;have HRW:=Zd (h.sci.raw h.few);clear h hV h1 hb1 XP he hf hu hEI hFI;go_enter func105,ntmps105
 go_upto_region 2 with fail
 rw[←H1.o];clear H1 c3 cz p2 p3 p4 p5 p6 p7 p8 pz;obtain⟨x0,x1,x2,x3,x4,x5,x6⟩:=HXP.o.y7;have xz:=HXP.o.size;have HC:=Zd (listLost_is fo fc s.fa ⟨#[108,111,115,116]⟩ W1 (by have:=HRW.o.em;have:=HRW.o.tot;omega) (by decide) (fun t ht=>(hR.fa t ht).row) FI.o V1.o.now.1);obtain⟨T,hT⟩:=nmd (Qt ⟨#[108,111,115,116]⟩ (s.fa.map Qv));rw[←hT]at HC;have HT:=Zd hT;clear hT;go_wp2_with fail;refine HC.o.mono ?_;rintro e w2 ⟨rfl,hb2⟩;have HB2:=Zd hb2;clear hb2 HC x0 x1 x2 x3 x4 x5 x6 xz;go_wp2;refine bodyPost_ret (v:=.string T) (by simp[results,results105,go_sem]) rfl ?_;exact⟨by rw[HT.o],bb,xs,ev,fv,uv,P1.o.later HB2.o,S1.o.trans (SStep.of_below HB2.o (Nat.le_of_lt P1.o.box.size))⟩
theorem obey_run(n0 q:Nat)(W:World)(o:Option Addr)(c:Nat)(us:List LNode)(hi lo p bb:Nat)(so:Option Addr)(sc:Nat)(xs:List Value)(ev fv uv:Value)(s:PP)(n:Nat)(ea:Nat→Addr)(go:Option Addr)(gn gc:Nat)(h:PR q W o c us hi lo p bb so sc xs ev fv uv s n)(hV:Env n0 W ea)(hn:n0≤q) :
  Calls prog 105 #[.pointer (some ⟨q,0,none⟩),.int .i64 7,.slice go gn gc] W (Db q W o c us hi lo p so sc (OR q p bb xs ev fv uv) (tx [115,116,101,112,115,32]++tx (Lib.itoa (Rf (us.map Zz) s:Int))) (itS (us.map Zz) (Rf (us.map Zz) s) { s with cl:=true }) n):=by
 obtain⟨eo,ec,he,_,hEI⟩:=h.flow.emo.in;obtain⟨fo,fc,hf,_,hFI⟩:=h.flow.fao.in;obtain⟨uo,uc,hu,_,_⟩:=h.flow.fuo.in;obtain⟨W1,h1⟩:=nmd (W.alloc (.cells #[.int .i64 s.ti,.int .i64 s.it,.bool s.cl,.slice (some ⟨bb,0,none⟩) s.bx.length s.bx.length,.slice eo s.em.length ec,.slice fo s.fa.length fc,.slice uo s.fu.length uc] 48));have hb1:Below W.1.size W W1:=by rw[h1];exact Zk _ _
 have XP:Bx W1 W.1.size [.int .i64 s.ti,.int .i64 s.it,.bool s.cl,.slice (some ⟨bb,0,none⟩) s.bx.length s.bx.length,.slice eo s.em.length ec,.slice fo s.fa.length fc,.slice uo s.fu.length uc]:=by rw[h1];exact Bx.new [.int .i64 s.ti,.int .i64 s.it,.bool s.cl,.slice (some ⟨bb,0,none⟩) s.bx.length s.bx.length,.slice eo s.em.length ec,.slice fo s.fa.length fc,.slice uo s.fu.length uc] _ rfl
 have H1:=Zd h1;have P1:=Zd (h.later hb1);have hqW:q<W.1.size:=h.box.size;have S1:=Zd (SStep.of_below (n:=q) (O:=OR q p bb xs ev fv uv) hb1 (Nat.le_of_lt hqW));have V1:=Zd (hV.step (hb1.mono (Nat.le_of_lt (Nat.lt_of_le_of_lt hn hqW))));have EI:=Zd (hEI.later hb1);have FI:=Zd (hFI.later hb1);have BI:=Zd (FrTT.in (show FrTT bb W.1.size W (some ⟨bb,0,none⟩) s.bx.length s.bx from⟨_,h.flow.hnd.fr⟩)|>.later hb1);have c3:=h.box.c 3 rfl;have cz:=h.box.size;have p2:=h.flow.box.c 2 rfl;have p3:=h.flow.box.c 3 rfl;have p4:=h.flow.box.c 4 rfl;have p5:=h.flow.box.c 5 rfl;have p6:=h.flow.box.c 6 rfl;have p7:=h.flow.box.c 7 rfl;have p8:=h.flow.box.c 8 rfl;have pz:=h.flow.box.size;rw[he]at p6;rw[hf]at p7;rw[hu]at p8;have HXP:=Zd XP;have HRW:=Zd (h.sci.raw h.few);clear h hV h1 hb1 XP he hf hu hEI hFI;go_enter func105,ntmps105
 go_upto_region 2 with fail
 rw[←H1.o];clear H1 c3 cz p2 p3 p4 p5 p6 p7 p8 pz;have hg:=P1.o.good;obtain⟨hK2,hK⟩:=P1.o.sci.halt hg.1 hg.2.1 hg.2.2 P1.o.few;have HSI:=Zd (P1.o.sci.ran hg.1 hg.2.1 hg.2.2 P1.o.few hK);have HRI:=Zd (P1.o.sci.run hg.1 hg.2.2 P1.o.few);obtain⟨gb,goff,rfl,hgl⟩:∃gb goff,o=some ⟨gb,goff,none⟩∧0<us.length:=by
  have h00:Qa (us.map Zz)=0:=by have:=P1.o.pipe;simp[Kv]at this;exact this.1
  have h1:0<us.length:=by have:=(Jw h00).1;rw[Zb]at this;omega
  obtain⟨b,off,e,_,_⟩:=Qw P1.o.gr.in.1 h1;exact⟨b,off,e,h1⟩
 have HRY:=Zd (runY_any lo W1 p bb gb goff c us (.slice so (Ke (us.map Zz) us.length).length sc) xs ev fv uv s (Rf (us.map Zz) s) P1.o.flow (P1.o.gr.inHi.up Zf P1.o.hi1) P1.o.fit.few hgl hg.1 hg.2.1 HRI.o hK hK2);have c3:=P1.o.box.c 3 rfl;have cz:=P1.o.box.size;obtain⟨K,hKK⟩:=nmd (Rf (us.map Zz) s);rw[←hKK]at HRY HSI hK2;have HKK:=Zd hKK;clear hKK hK hg HRI;go_wp2_with fail;refine HRY.o.mono ?_;rintro e w2 ⟨bb',xs',ev',fv',uv',rfl,hFY⟩;obtain⟨bb2,xs2,ev2,fv2,uv2,P2,S2⟩:=P1.o.step hFY.step HSI.o;have HP2:=Zd P2;have S2':=Zd (S1.o.trans S2);have V2:=Zd (V1.o.step (S2.low.mono hn));clear hFY P2 S2 HRY c3 cz;go_wp2_with fail;refine(Vv (K:Int) (by omega) (by omega) w2 V2.o.now.1).mono ?_;rintro e w4 ⟨rfl,hb4⟩;obtain⟨y,hy⟩:=nmd (tx (Lib.itoa (K:Int)));have hys:y.size≤100:=by rw[hy];have:=Qx (K:Int) (by omega) (by omega);show(tx _).size≤100;simp only[tx,ByteArray.size,List.size_toArray];omega
 have hy6:¬9223372036854775807<6+y.size:=by omega
 have HY:=Zd hy;rw[←hy];have HB4:=Zd hb4;clear hy hb4;go_wp2;refine bodyPost_ret (v:=.string (⟨#[115,116,101,112,115,32]⟩++y)) (by simp[results,results105,go_sem]) rfl ?_;rw[←HKK.o,←HY.o];exact⟨rfl,bb2,xs2,ev2,fv2,uv2,HP2.o.later HB4.o,S2'.o.trans (SStep.of_below HB4.o (Nat.le_of_lt HP2.o.box.size))⟩
def Yy(gs:List PNode)(s:PP)(n:Nat)(m:Int×Int×Int):ByteArray×PP×Nat :=
 if n=300 then(Nb,s,n)else(movT (doR gs (Ke gs gs.length) s m.1 m.2.1 m.2.2).1,(doR gs (Ke gs gs.length) s m.1 m.2.1 m.2.2).2,n+1)
theorem moveA_is(us:List LNode)(s:PP)(n:Nat)(m:Int×Int×Int):Yy (us.map Zz) s n m=(if n=300 then Nb else movT (doR (us.map Zz) (Ke (us.map Zz) us.length) s m.1 m.2.1 m.2.2).1,if n=300 then s else(doR (us.map Zz) (Ke (us.map Zz) us.length) s m.1 m.2.1 m.2.2).2,if n=300 then n else n+1):=by
 unfold Yy
 rw[Zb]
 by_cases h:n=300
 ·rw[if_pos h,if_pos h,if_pos h,if_pos h]
 ·rw[if_neg h,if_neg h,if_neg h,if_neg h]
def meanT(gs:List PNode)(k v:Int):ByteArray:=if(Xy gs k v).2=true then Qt ⟨#[109,101,97,110]⟩ ((Xy gs k v).1.map Qj)else noT
theorem mean_any(n0 q:Nat)(W:World)(o:Option Addr)(c:Nat)(us:List LNode)(hi lo p bb:Nat)(so:Option Addr)(sc:Nat)(xs:List Value)(ev fv uv:Value)(s:PP)(n:Nat)(ea:Nat→Addr)(k v:Int)(h:PR q W o c us hi lo p bb so sc xs ev fv uv s n)(hV:Env n0 W ea)(hn:n0≤q) :
  Calls prog 134 #[.pointer (some ⟨q,0,none⟩),.int .i64 k,.int .i64 v] W fun e W'=>e=.returned (.string (meanT (us.map Zz) k v))∧Below W.1.size W W':=by
 have HC:=Zd (implMean_is o c us k v ea W (h.fit.roomy h.gr) hV.now.2.2.2.2.1 h.gr.in);have HV:=Zd (hV.step ((Below.refl n0 W)));have c0:=h.box.c 0 rfl;have cz:=h.box.size;have HN:Zi (n0≤W.1.size):=Nat.le_of_lt (Nat.lt_of_le_of_lt hn h.box.size);have HL:=Zd (My (us.map Zz) k v);have H64:=Zd (meanR_row (us.map Zz) k v);obtain⟨R,hR⟩:=nmd (Xy (us.map Zz) k v);have HT:Zi (meanT (us.map Zz) k v=if R.2=true then Qt ⟨#[109,101,97,110]⟩ (R.1.map Qj)else noT):=by rw[Zi,hR];rfl
 rw[←hR]at HC HL H64;clear h hV hn hR;go_enter func134,ntmps134;go_wp2_with fail;refine HC.o.mono ?_;rintro e w2 ⟨⟨ro,rc,rfl,hF⟩,hb2⟩;have HF:=Zd hF.in;have V2:=Zd (HV.o.step (hb2.mono HN.o));have HB2:=Zd hb2;clear hF hb2 c0 cz HC;obtain⟨R1,R2⟩:=R;dsimp only at HL H64 HT HF ⊢
 cases R2 with
 |false =>
  go_wp2;refine bodyPost_ret (v:=.string ⟨#[110,111]⟩) (by simp[results,results134,go_sem]) rfl ?_;exact⟨by rw[HT.o,if_neg (by decide)];rfl,HB2.o⟩
 |true =>
  have HCL:=Zd (listEmit_is ro rc R1 ⟨#[109,101,97,110]⟩ w2 (by have:=HL.o;omega) (by decide) H64.o HF.o V2.o.now.1);obtain⟨T,hT⟩:=nmd (Qt ⟨#[109,101,97,110]⟩ (R1.map Qj));rw[←hT]at HCL HT;clear hT;go_wp2_with fail;refine HCL.o.mono ?_;rintro e w3 ⟨rfl,hb3⟩;have HB3:=Zd (HB2.o.trans (hb3.mono HB2.o.size));clear hb3 HCL;go_wp2;refine bodyPost_ret (v:=.string T) (by simp[results,results134,go_sem]) rfl ?_;exact⟨by rw[HT.o];simp,HB3.o⟩
theorem obey_mean(n0 q:Nat)(W:World)(o:Option Addr)(c:Nat)(us:List LNode)(hi lo p bb:Nat)(so:Option Addr)(sc:Nat)(xs:List Value)(ev fv uv:Value)(s:PP)(n:Nat)(ea:Nat→Addr)(h:PR q W o c us hi lo p bb so sc xs ev fv uv s n)(hV:Env n0 W ea)(hn:n0≤q)(go:Option Addr)(gc:Nat)(k v:Int)(hz:kI.In W.1.size W go ([k,v]:List Int)) :
  Calls prog 105 #[.pointer (some ⟨q,0,none⟩),.int .i64 11,.slice go 2 gc] W (Db q W o c us hi lo p so sc (OR q p bb xs ev fv uv) (meanT (us.map Zz) k v) s n):=by
 obtain⟨eo,ec,he,_,hEI⟩:=h.flow.emo.in;obtain⟨fo,fc,hf,_,hFI⟩:=h.flow.fao.in;obtain⟨uo,uc,hu,_,_⟩:=h.flow.fuo.in;obtain⟨W1,h1⟩:=nmd (W.alloc (.cells #[.int .i64 s.ti,.int .i64 s.it,.bool s.cl,.slice (some ⟨bb,0,none⟩) s.bx.length s.bx.length,.slice eo s.em.length ec,.slice fo s.fa.length fc,.slice uo s.fu.length uc] 48));have hb1:Below W.1.size W W1:=by rw[h1];exact Zk _ _
 have XP:Bx W1 W.1.size [.int .i64 s.ti,.int .i64 s.it,.bool s.cl,.slice (some ⟨bb,0,none⟩) s.bx.length s.bx.length,.slice eo s.em.length ec,.slice fo s.fa.length fc,.slice uo s.fu.length uc]:=by rw[h1];exact Bx.new [.int .i64 s.ti,.int .i64 s.it,.bool s.cl,.slice (some ⟨bb,0,none⟩) s.bx.length s.bx.length,.slice eo s.em.length ec,.slice fo s.fa.length fc,.slice uo s.fu.length uc] _ rfl
 have H1:=Zd h1;have P1:=Zd (h.later hb1);have hqW:q<W.1.size:=h.box.size;have S1:=Zd (SStep.of_below (n:=q) (O:=OR q p bb xs ev fv uv) hb1 (Nat.le_of_lt hqW));have V1:=Zd (hV.step (hb1.mono (Nat.le_of_lt (Nat.lt_of_le_of_lt hn hqW))));have EI:=Zd (hEI.later hb1);have FI:=Zd (hFI.later hb1);have BI:=Zd (FrTT.in (show FrTT bb W.1.size W (some ⟨bb,0,none⟩) s.bx.length s.bx from⟨_,h.flow.hnd.fr⟩)|>.later hb1);have c3:=h.box.c 3 rfl;obtain⟨gb,goff,rfl,hgb,hgc⟩:=Zo hz (k:=0) (by simp);have d0:W.cell? ⟨gb,goff,none⟩=some (.int .i64 k):=hgc 0 (by simp);have d1:W.cell? ⟨gb,goff+1,none⟩=some (.int .i64 v):=hgc 1 (by simp);have H9:=Zd hb1;clear hz hgc;have cz:=h.box.size;have p2:=h.flow.box.c 2 rfl;have p3:=h.flow.box.c 3 rfl;have p4:=h.flow.box.c 4 rfl;have p5:=h.flow.box.c 5 rfl;have p6:=h.flow.box.c 6 rfl;have p7:=h.flow.box.c 7 rfl;have p8:=h.flow.box.c 8 rfl;have pz:=h.flow.box.size;rw[he]at p6;rw[hf]at p7;rw[hu]at p8;have HXP:=Zd XP;have HRW:=Zd (h.sci.raw h.few);clear h hV h1 hb1 XP he hf hu hEI hFI;go_enter func105,ntmps105
 go_upto_region 2 with fail
 rw[←H1.o];clear H1 c3 cz p2 p3 p4 p5 p6 p7 p8 pz;have HM:=Zd (mean_any n0 q W1.drew o c us hi lo p bb so sc xs ev fv uv s n ea k v (P1.o.later (Below.refl _ W1).drew) (V1.o.step ((Below.refl _ W1).drew.mono (Nat.le_of_lt (Nat.lt_of_le_of_lt hn P1.o.box.size)))) hn);have e0:=(H9.o.cell (p:=⟨gb,goff,none⟩) hgb).trans d0;have e1:=(H9.o.cell (p:=⟨gb,goff+1,none⟩) hgb).trans d1;have E0:Zi (W1.cell? ⟨gb,goff,none⟩=some (.int .i64 k)∧W1.cell? ⟨gb,goff+1,none⟩=some (.int .i64 v)):=⟨e0,e1⟩;have HGZ:Zi (gb<W1.1.size):=Nat.lt_of_lt_of_le hgb H9.o.size;clear e0 e1 d0 d1
 go_upto_region 12 with fail
 refine Qq (zl:=[8]) (S:=fun Y=>Y.cell? ⟨gb,goff,none⟩=some (.int .i64 k)∧Y.cell? ⟨gb,goff+1,none⟩=some (.int .i64 v)) (by kernel_rfl) E0.o (fun hH=>?_);refine Zq 0 hH ?_;refine Zq 1 hH ?_;refine Zq 2 hH ?_;refine Zq 3 hH ?_;refine Zq 4 hH ?_;refine Zq 5 hH ?_;refine Zq 6 hH ?_;refine Walks.on 7 fun K hK=>?_
 go_simp;refine HM.o.mono ?_;rintro e w3 ⟨rfl,hb3⟩;have hbx:Below W1.1.size W1 w3:=(Below.refl _ W1).drew.trans hb3;have E3:Zi (w3.cell? ⟨gb,goff,none⟩=some (.int .i64 k)∧w3.cell? ⟨gb,goff+1,none⟩=some (.int .i64 v)):=⟨(hbx.cell (p:=⟨gb,goff,none⟩) HGZ.o).trans E0.o.1,(hbx.cell (p:=⟨gb,goff+1,none⟩) HGZ.o).trans E0.o.2⟩;have HB2:=Zd hbx;obtain⟨T,hT⟩:=nmd (meanT (us.map Zz) k v);rw[←hT]at hK ⊢;have HT:=Zd hT;clear hb3 hbx HM hT;refine hK.out _ _ (fun _=>E3.o) (fun _=>?_);clear hK K;refine Walks.on 8 fun K hK=>?_
 go_simp;refine hK.out _ _ (fun h=>absurd h (by decide)) (fun _=>?_);clear hK K;refine Walks.done (by kernel_rfl) ?_ _;go_wp2;refine bodyPost_ret (v:=.string T) (by simp[results,results105,go_sem]) rfl ?_;exact⟨by rw[HT.o],bb,xs,ev,fv,uv,P1.o.later HB2.o,S1.o.trans (SStep.of_below HB2.o (Nat.le_of_lt P1.o.box.size))⟩
theorem obey_move(n0 q:Nat)(W:World)(o:Option Addr)(c:Nat)(us:List LNode)(hi lo p bb:Nat)(so:Option Addr)(sc:Nat)(xs:List Value)(ev fv uv:Value)(s:PP)(n:Nat)(ea:Nat→Addr)(h:PR q W o c us hi lo p bb so sc xs ev fv uv s n)(hV:Env n0 W ea)(hn:n0≤q)(go:Option Addr)(gc:Nat)(k:Nat)(hk:k<6)(l:List Int)(hl:l.length=Uh k)(hz:kI.In W.1.size W go l) :
  Calls prog 105 #[.pointer (some ⟨q,0,none⟩),.int .i64 ((k:Int)+1),.slice go l.length gc] W (Db q W o c us hi lo p so sc (OR q p bb xs ev fv uv) (Yy (us.map Zz) s n (mvR ((k:Int)+1) l)).1 (Yy (us.map Zz) s n (mvR ((k:Int)+1) l)).2.1 (Yy (us.map Zz) s n (mvR ((k:Int)+1) l)).2.2):=by
 obtain⟨eo,ec,he,_,hEI⟩:=h.flow.emo.in;obtain⟨fo,fc,hf,_,hFI⟩:=h.flow.fao.in;obtain⟨uo,uc,hu,_,_⟩:=h.flow.fuo.in;obtain⟨W1,h1⟩:=nmd (W.alloc (.cells #[.int .i64 s.ti,.int .i64 s.it,.bool s.cl,.slice (some ⟨bb,0,none⟩) s.bx.length s.bx.length,.slice eo s.em.length ec,.slice fo s.fa.length fc,.slice uo s.fu.length uc] 48));have hb1:Below W.1.size W W1:=by rw[h1];exact Zk _ _
 have XP:Bx W1 W.1.size [.int .i64 s.ti,.int .i64 s.it,.bool s.cl,.slice (some ⟨bb,0,none⟩) s.bx.length s.bx.length,.slice eo s.em.length ec,.slice fo s.fa.length fc,.slice uo s.fu.length uc]:=by rw[h1];exact Bx.new [.int .i64 s.ti,.int .i64 s.it,.bool s.cl,.slice (some ⟨bb,0,none⟩) s.bx.length s.bx.length,.slice eo s.em.length ec,.slice fo s.fa.length fc,.slice uo s.fu.length uc] _ rfl
 have H1:=Zd h1;have P1:=Zd (h.later hb1);have hqW:q<W.1.size:=h.box.size;have S1:=Zd (SStep.of_below (n:=q) (O:=OR q p bb xs ev fv uv) hb1 (Nat.le_of_lt hqW));have V1:=Zd (hV.step (hb1.mono (Nat.le_of_lt (Nat.lt_of_le_of_lt hn hqW))));have EI:=Zd (hEI.later hb1);have FI:=Zd (hFI.later hb1);have BI:=Zd (FrTT.in (show FrTT bb W.1.size W (some ⟨bb,0,none⟩) s.bx.length s.bx from⟨_,h.flow.hnd.fr⟩)|>.later hb1);have c3:=h.box.c 3 rfl;have H9:=Zd (hz.later hb1);clear hz;have cz:=h.box.size;have p2:=h.flow.box.c 2 rfl;have p3:=h.flow.box.c 3 rfl;have p4:=h.flow.box.c 4 rfl;have p5:=h.flow.box.c 5 rfl;have p6:=h.flow.box.c 6 rfl;have p7:=h.flow.box.c 7 rfl;have p8:=h.flow.box.c 8 rfl;have pz:=h.flow.box.size;rw[he]at p6;rw[hf]at p7;rw[hu]at p8;have HXP:=Zd XP;have HRW:=Zd (h.sci.raw h.few);clear h hV h1 hb1 XP he hf hu hEI hFI;go_enter func105,ntmps105
 go_upto_region 2 with fail
 rw[←H1.o];clear H1 c3 cz p2 p3 p4 p5 p6 p7 p8 pz;have HMO:=Zd (moveOf_is k hk go gc l W1 hl (H9.o));have hm1:(mvR ((k:Int)+1) l).1=(k:Int)+1:=by unfold mvR;(repeat' split) <;> rfl
 obtain⟨m,hm⟩:=nmd (mvR ((k:Int)+1) l);rw[←hm]at HMO hm1;have HMM:=Zd hm;clear hm hl H9;obtain⟨m1,m2,m3⟩:=m;dsimp only at HMO hm1;have hm2:m1≤9223372036854775807:=by omega
 have HM2:=Zd hm2;clear hm1 hm2;go_wp2_with fail;refine HMO.o.mono ?_;rintro e w2 ⟨rfl,hb2⟩;have P2:=Zd (P1.o.later hb2);have V2:=Zd (V1.o.step (hb2.mono (Nat.le_of_lt (Nat.lt_of_le_of_lt hn P1.o.box.size))));have S2:=Zd (S1.o.trans (SStep.of_below hb2 (Nat.le_of_lt P1.o.box.size)));have hmv:=move_any n0 q w2 o c us hi lo p bb so sc xs ev fv uv s n ea m1 m2 m3 HM2.o P2.o V2.o hn;have hq:Db q w2 o c us hi lo p so sc (OR q p bb xs ev fv uv) (if n=300 then Nb else movT (doR (us.map Zz) (Ke (us.map Zz) us.length) s m1 m2 m3).1) (if n=300 then s else(doR (us.map Zz) (Ke (us.map Zz) us.length) s m1 m2 m3).2) (if n=300 then n else n+1)=Db q w2 o c us hi lo p so sc (OR q p bb xs ev fv uv) (Yy (us.map Zz) s n (m1,m2,m3)).1 (Yy (us.map Zz) s n (m1,m2,m3)).2.1 (Yy (us.map Zz) s n (m1,m2,m3)).2.2:=by rw[moveA_is]
 rw[hq]at hmv;obtain⟨A,hT⟩:=nmd (Yy (us.map Zz) s n (m1,m2,m3));rw[←hT]at hmv;obtain⟨T,s2,n2⟩:=A;dsimp only at hmv;have HMV:=Zd hmv;have HT:=Zd hT;clear hq;clear hb2 hmv hT HMO;go_wp2_with fail;refine HMV.o.mono ?_;rintro e w3 ⟨rfl,bb',xs',ev',fv',uv',P3,S3⟩;have HP3:=Zd P3;have HS3:=Zd (S2.o.trans S3);clear P3 S3 HMV;go_wp2;refine bodyPost_ret (v:=.string T) (by simp[results,results105,go_sem]) rfl ?_;rw[←HMM.o,←HT.o];exact⟨rfl,bb',xs',ev',fv',uv',HP3.o,HS3.o⟩
theorem cmdO_some{x:ByteArray}{n k:Nat}(h:cmdO x n=some k):k<11∧n=Uh k:=by
 unfold cmdO at h
 have h1:=List.mem_range.1 (List.mem_of_find?_eq_some h);have h2:=List.find?_some h;exact⟨h1,(of_decide_eq_true h2).2⟩
theorem cmdR_good{ws:List ByteArray}(h:(Df ws).2.2=true):∃k:Nat,k<11∧(Df ws).1=(k:Int)+1∧(Df ws).2.1.length=Uh k:=by
 unfold Df at h ⊢
 split
 ·rename_i e;rw[e]at h;cases h
 ·rename_i l e;rw[e]at h;dsimp only at h
  split
  ·rename_i e2;rw[e2]at h;cases h
  ·rename_i k e2;obtain⟨h1,h2⟩:=cmdO_some e2;exact⟨k,h1,rfl,h2⟩
theorem Ti(st:SS)(m:Int×Int×Int):movR st m=({ st with s:=(Yy st.gs st.s st.n m).2.1,n:=(Yy st.gs st.s st.n m).2.2 },(Yy st.gs st.s st.n m).1):=by
 unfold movR Yy
 split <;> rfl
theorem Fh(st:SS){k:Nat}(hk:k<6)(l:List Int):Jl st ((k:Int)+1) l=movR st (mvR ((k:Int)+1) l):=by
 unfold Jl
 rw[if_neg (by omega),if_neg (by omega),if_neg (by omega),if_neg (by omega),if_neg (by omega)]
theorem obey_any(n0 q:Nat)(W:World)(o:Option Addr)(c:Nat)(us:List LNode)(hi lo p bb:Nat)(so:Option Addr)(sc:Nat)(xs:List Value)(ev fv uv:Value)(st:SS)(ea:Nat→Addr)(h:PR q W o c us hi lo p bb so sc xs ev fv uv st.s st.n)(hg:us.map Zz=st.gs)(hR:RgI st.s)(hV:Env n0 W ea)(hn:n0≤q)(go:Option Addr)(gc:Nat)(k:Nat)(hk:k<11)(l:List Int)(hl:l.length=Uh k)(hz:kI.In W.1.size W go l) :
  Calls prog 105 #[.pointer (some ⟨q,0,none⟩),.int .i64 ((k:Int)+1),.slice go l.length gc] W (Db q W o c us hi lo p so sc (OR q p bb xs ev fv uv) (Jl st ((k:Int)+1) l).2 (Jl st ((k:Int)+1) l).1.s (Jl st ((k:Int)+1) l).1.n):=by
 by_cases h6:k<6
 ·have h1:=obey_move n0 q W o c us hi lo p bb so sc xs ev fv uv st.s st.n ea h hV hn go gc k h6 l hl hz;rw[Fh st h6,Ti,←hg];exact h1
 ·rcases(show k=6∨k=7∨k=8∨k=9∨k=10 from by omega)with rfl|rfl|rfl|rfl|rfl
  ·have h1:=obey_run n0 q W o c us hi lo p bb so sc xs ev fv uv st.s st.n ea go l.length gc h hV hn;rw[hg]at h1;exact h1
  ·exact obey_rep n0 q W o c us hi lo p bb so sc xs ev fv uv st.s st.n ea go l.length gc h hV hn
  ·exact obey_out n0 q W o c us hi lo p bb so sc xs ev fv uv st.s st.n ea go l.length gc h hV hn hR
  ·exact obey_lost n0 q W o c us hi lo p bb so sc xs ev fv uv st.s st.n ea go l.length gc h hV hn hR
  ·match l,hl with
   | [x,y],_ =>
    have h1:=obey_mean n0 q W o c us hi lo p bb so sc xs ev fv uv st.s st.n ea h hV hn go gc x y hz;rw[hg]at h1;exact h1
theorem Tc(st:SS)(k:Int)(l:List Int):(Jl st k l).1.gs=st.gs∧(Jl st k l).1.bg=st.bg∧(Jl st k l).1.bad=st.bad:=by
 unfold Jl
 repeat' split
 all_goals first|exact⟨rfl,rfl,rfl⟩|(rw[Ti];exact⟨rfl,rfl,rfl⟩)
theorem obeyR_rng(st:SS)(hR:RgI st.s)(hi:itB st.s.it)(k:Int)(l:List Int):RgI (Jl st k l).1.s:=by
 unfold Jl
 repeat' split
 all_goals first
  |exact hR
  |exact RgI.it (s:={ st.s with cl:=true }) ⟨hR.len,hR.bx,hR.em,hR.fa⟩ _
  |skip
 rw[Ti];dsimp only
 unfold Yy
 split
 ·exact hR
 ·exact hR.move hi _ _ _
theorem Nl(b off cap:Nat)(ws:List ByteArray)(w:World)(h0:0<ws.length)(hl:ws.length≤1048577)(hcap:ws.length≤cap)(hS:Ns ws)(hz:kS.In w.1.size w (some ⟨b,off,none⟩) ws)(hT:PowTab w)(hE:NErr w)(hM:Cmds w) :
  Calls prog 104 #[.slice (some ⟨b,off,none⟩) ws.length cap] w (AnsCm w (Df ws)):=by
 have HZ:=Zd hz;have HM:=Zd hM;have hlen1:(ws.drop 1).length=ws.length-1:=List.length_drop;have HMM:Zi (∀a c,kS.In w.1.size w a (ws.drop 1)→Calls prog 75 #[.slice a (ws.length-1) c] w (AnsNB w (He (ws.drop 1)))):=fun a c hz=>by
  have:=Wl a c (ws.drop 1) w (by omega) (fun x hx=>hS x (List.mem_of_mem_drop hx)) hz hT hE;rw[hlen1]at this;exact this
 have hbz0:b<w.1.size:=by obtain⟨b2,off2,e,hb3,_⟩:=Ks hz h0;cases e;exact hb3
 by_cases hq:cap=1
 case' pos =>
  have hend:kS.In w.1.size w (some ⟨b,off,none⟩) (ws.drop 1):=by
   have:ws.drop 1=[]:=List.length_eq_zero_iff.1 (by rw[hlen1];omega);rw[this];exact .inl rfl
  have HCC:=Zd (HMM.o _ 0 hend);clear hend
 case' neg=>have HCC:=Zd (HMM.o _ (cap-1) (Fb hz hbz0))
 all_goals
  clear HMM hT hE hM hS hz hlen1;go_enter func104,ntmps104;go_wp2_with fail;refine HCC.o.mono ?_;rintro e w2 ⟨⟨go2,qc2,rfl,hno2,hF2⟩,hb2⟩;clear HCC hno2;have hB2:Below w.1.size w w2:=hb2;have hw:=HM.o.later hb2;have HAL:=Zd hw.all;have d0:w2.cell? ⟨b,off,none⟩=some (.string (el ws 0)):=by
   obtain⟨b2,off2,e,hb3,hc⟩:=Ks HZ.o h0
   cases e
   have:=(hb2.cell (p:=⟨b,off+0,none⟩) hb3).trans (hc 0 h0);exact this
  obtain⟨x,hx⟩:∃x,el ws 0=x:=⟨_,rfl⟩;rw[hx]at d0;have HX:=Zd hx;have hbz:b<w2.1.size:=by obtain⟨b2,off2,e,hb3,_⟩:=Ks HZ.o h0;cases e;exact Nat.lt_of_lt_of_le hb3 hB2.size
  have HB2:=Zd hB2;have h0i:(0:Int)<(ws.length:Int):=by omega
  have HIX:Zi (∀(k:Nat),k<11→∀W:World,(Instr.index 182 cmdTab (.int .i64 (k:Int))).run prog W=.ok (.agg #[.string (Vj k),.int .i64 ((k:Int)+1),.int .i64 (Uh k:Int)]) W):=fun k hk W=>Tryz.ixC k hk W
  cases hn:Jm (ws.drop 1)with
  |none =>
   as_aux_lemma =>
   have HR:Zi (Df ws=(0,[],false)):=by rw[Zi,Df,hn]
   rw[Rj hn]at hF2 ⊢;clear hF2 hn hw hx hb2;dsimp only;go_wp2_with (with_reducible refine Ui _ rfl _ 182 rfl ⟨1,0,none⟩ rfl 33 cmdF Tryz.isAggC Tryz.sizeC HAL.o cmdTab rfl ?_)
   go_loopw [16] (fun i wr=>∃k:Nat,i=.int .i64 (k:Int)∧k≤11∧Zi (Below w2.1.size w2 wr)) (fun i _=>11-(intOf i).toNat)
   case atStart=>exact⟨0,rfl,by omega,Below.refl _ _⟩
   case round =>
    obtain⟨k,rfl,hk,hBr⟩:=hrel;have hBf:=HB2.o.trans (hBr.o.mono HB2.o.size)
    by_cases hlt:k<11
    ·have hki:(k:Int)<11:=by omega
     have hx1:=HIX.o k hlt wr
     generalize Vj k=cw at hx1
     generalize(Uh k:Int)=cn at hx1
     go_upto_region 5 with fail
     obtain⟨w3,h3⟩:=nmd (wr.alloc (.cells #[.string cw,.int .i64 ((k:Int)+1),.int .i64 cn] 181));have hb3:Below wr.1.size wr w3:=by rw[h3];exact Zk _ _
     rw[←h3];have hBn:=Zd (hBr.o.trans (hb3.mono hBr.o.size));clear h3 hb3 hx1 hBr hBf
     go_quiet (fail)
     go_wp2;go_roundw
     case rel=>exact⟨k+1,by go_num,by omega,Zc hBn.o _⟩
     case measure=>simp[intOf];omega
    ·obtain rfl:k=11:=by omega
     have HRF:=HR.o;rw[Zi]at HR;clear HR;have HRF:=Zd HRF;go_wp2;refine bodyPost_ret (v:=.tuple #[.int .i64 0,.slice none 0 0,.bool false]) (by simp[results,results104,go_sem]) rfl ?_;rw[HRF.o];exact⟨⟨none,0,rfl,Kind.Fresh.nil _ _ _ _ _ _⟩,hBf⟩
  |some l =>
   have hnl:=Vd hn;rw[List.length_drop]at hnl;have HR:Zi (Df ws=match cmdO x l.length with|none=>(0,[],false)|some k=>((k:Int)+1,l,true)):=by rw[Zi,Df,hn,←hx] <;> rfl
   rw[Gz hn]at hF2 ⊢;have HF2:=Zd hF2;clear hF2 hn hw hx;have hll:l.length≤1048577:=by omega
   have HLI:Zi (kI.In w2.1.size w2 go2 l):=HF2.o.in;clear hnl hb2;dsimp only;go_wp2_with (with_reducible refine Ui _ rfl _ 182 rfl ⟨1,0,none⟩ rfl 33 cmdF Tryz.isAggC Tryz.sizeC HAL.o cmdTab rfl ?_)
   go_loopw [16] (fun i wr=>∃k:Nat,i=.int .i64 (k:Int)∧k≤11∧Zi (∀j,j<k→¬(x=Vj j∧l.length=Uh j))∧Zi (Below w2.1.size w2 wr)) (fun i _=>11-(intOf i).toNat)
   case atStart=>exact⟨0,rfl,by omega,fun j hj=>by omega,Below.refl _ _⟩
   case round =>
    obtain⟨k,rfl,hk,hno,hBr⟩:=hrel;have hBf:=HB2.o.trans (hBr.o.mono HB2.o.size)
    by_cases hlt:k<11
    ·have hki:(k:Int)<11:=by omega
     have hx1:=HIX.o k hlt wr;obtain⟨cw,hcw⟩:=nmd (Vj k);obtain⟨cn,hcn⟩:=nmd (Uh k);rw[←hcw,←hcn]at hx1;have HCW:=Zd hcw;have HCN:=Zd hcn;clear hcw hcn
     go_upto_region 5 with fail
     obtain⟨w3,h3⟩:=nmd (wr.alloc (.cells #[.string cw,.int .i64 ((k:Int)+1),.int .i64 (cn:Int)] 181));have hb3:Below wr.1.size wr w3:=by rw[h3];exact Zk _ _
     have X3:Bx w3 wr.1.size [.string cw,.int .i64 ((k:Int)+1),.int .i64 (cn:Int)]:=by rw[h3];exact Bx.new [.string cw,.int .i64 ((k:Int)+1),.int .i64 (cn:Int)] _ rfl
     rw[←h3];have hBn:=Zd (hBr.o.trans (hb3.mono hBr.o.size));obtain⟨q0,q1,q2⟩:=X3.y3;have qz:=X3.size;have e0:=(hBn.o.cell (p:=⟨b,off,none⟩) hbz).trans d0;have hBw:=Zd (HB2.o.trans (hBn.o.mono HB2.o.size));clear h3 hb3 hx1 hBr hBf X3
     by_cases hc:x=cw∧l.length=cn
     ·as_aux_lemma =>
      obtain⟨rfl,hc2⟩:=hc;have f1:(x.toList==x.toList)=true:=by simp
      have f2:((cn:Int)==(l.length:Int))=true:=by rw[hc2];simp
      have HR2:Zi (Df ws=((k:Int)+1,l,true)):=by
       have h9:=HR.o;rw[cmdO_hit hlt ⟨HCW.o,hc2.trans HCN.o⟩ hno.o]at h9;exact h9
      clear hc2
      go_quiet (fail)
      go_wp2;refine bodyPost_ret (v:=.tuple #[.int .i64 ((k:Int)+1),.slice go2 l.length qc2,.bool true]) (by simp[results,results104,go_sem]) rfl ?_;rw[HR2.o];exact⟨⟨go2,qc2,rfl,(HF2.o.later (Zc hBn.o _)).wide (Nat.le_refl _) (Zc hBn.o _).size⟩,Zc hBw.o _⟩
     ·have HNX:Zi (∀j,j<k+1→¬(x=Vj j∧l.length=Uh j)):=fun j hj=>by
       rcases Nat.lt_succ_iff_lt_or_eq.1 hj with h|rfl
       ·exact hno.o j h
       ·rw[←HCW.o,←HCN.o];exact hc
      by_cases hc1:x=cw
      ·as_aux_lemma =>
       have f1:(cw.toList==x.toList)=true:=by rw[hc1];simp
       have f2:((cn:Int)==(l.length:Int))=false:=by
        have:l.length≠cn:=fun e=>hc ⟨hc1,e⟩
        simp;omega
       clear hc hc1
       go_quiet (fail)
       go_wp2;go_roundw
       case rel=>exact⟨k+1,by go_num,by omega,HNX,Zc hBn.o _⟩
       case measure=>simp[intOf];omega
      ·as_aux_lemma =>
       have hm1:cw.toList≠x.toList:=fun e=>hc1 (Ze e.symm)
       have f1:(cw.toList==x.toList)=false:=by simpa using hm1
       clear hc hc1 hm1
       go_quiet (fail)
       go_wp2;go_roundw
       case rel=>exact⟨k+1,by go_num,by omega,HNX,Zc hBn.o _⟩
       case measure=>simp[intOf];omega
    ·obtain rfl:k=11:=by omega
     have hR2:=HR.o;rw[Bu hno.o]at hR2;have HRF:=Zd hR2;clear hR2;go_wp2;refine bodyPost_ret (v:=.tuple #[.int .i64 0,.slice none 0 0,.bool false]) (by simp[results,results104,go_sem]) rfl ?_;rw[HRF.o];exact⟨⟨none,0,rfl,Kind.Fresh.nil _ _ _ _ _ _⟩,hBf⟩
theorem PB.later{q:Nat}{W W':World}{o:Option Addr}{c:Nat}{us:List LNode}{hi:Nat}{bad:Int}(h:PB q W o c us hi bad)(hb:Below W.1.size W W'):PB q W' o c us hi bad:=⟨h.box.later hb,h.gr.later hb,h.fit,Nat.le_trans h.hi1 hb.size,h.hi0⟩
def OB(q b:Nat):Prop:=b=q
def AnsPB(q:Nat)(W:World)(o:Option Addr)(c:Nat)(us:List LNode)(hi:Nat)(bad:Int)(O:Nat→Prop)(e:Ending)(W':World):Prop:=e=.returned (.string (refT bad))∧PB q W' o c us hi bad∧SStep q O (OB q) W W'
noncomputable def runA(st:SS)(ws:List ByteArray):SS×ByteArray:=match Df ws with
 |(k,l,true)=>Jl st k l
 |(_,_,false)=>(st,Nb)
def Sz(q:Nat)(W:World)(o:Option Addr)(c:Nat)(us:List LNode)(hi lo p:Nat)(so:Option Addr)(sc:Nat)(O:Nat→Prop)(R:SS×ByteArray)(e:Ending)(W':World):Prop :=
 Db q W o c us hi lo p so sc O R.2 R.1.s R.1.n e W'
theorem answer_run(n0 q:Nat)(W:World)(o:Option Addr)(c:Nat)(us:List LNode)(hi lo p bb:Nat)(so:Option Addr)(sc:Nat)(xs:List Value)(ev fv uv:Value)(st:SS)(ea:Nat→Addr)(line:ByteArray)(ws:List ByteArray)(hws:ws=Zw line 32)(h:PR q W o c us hi lo p bb so sc xs ev fv uv st.s st.n)(hgs:us.map Zz=st.gs)(hRg:RgI st.s)(hs:line.size≤3000)(hV:Env n0 W ea)(hn:n0≤q) :
  Calls prog 83 #[.pointer (some ⟨q,0,none⟩),.string line] W (Sz q W o c us hi lo p so sc (OR q p bb xs ev fv uv) (runA st ws)):=by
 have HGS:=Zd hgs;have HRG:=Zd hRg;clear hgs hRg;have HP:Zi (Calls prog 34 #[.string line,.int .i32 32] W (AnsS W ws)):=by rw[Zi,hws];exact Xj line 32 W (by omega) (by decide)
 have HSh:Zi (Ns ws):=by rw[Zi,hws];exact Qc 32 (by omega)
 have hL:ws.length≤line.size+1:=by rw[hws];exact Qr line 32
 have hpos:0<ws.length:=by rw[hws];exact Jd line 32
 have H:=Zd h;have HV:=Zd hV;have HN:Zi (n0≤W.1.size):=Nat.le_of_lt (Nat.lt_of_le_of_lt hn h.box.size);clear hws h hV;go_enter func83,ntmps83;go_wp2_with fail;refine HP.o.mono ?_;rintro e w1 ⟨⟨go,qc,rfl,hno,hF⟩,hb1⟩;obtain⟨g,rfl,hg1,hg2,hg3,_⟩:=hF.at hpos;have hcap:=hF.cap;have hI:=Zd hF.in;have d0:=Jf hI.o 0 hpos;have H1:=Zd (H.o.later hb1);have V1:=Zd (HV.o.step (hb1.mono HN.o));have HB1:=Zd hb1;have HQ:=Zd (Nat.le_of_lt H.o.box.size);obtain⟨x,hx⟩:=nmd (el ws 0);rw[←hx]at d0;have c1:=H1.o.box.c 1 rfl;have cz:=H1.o.box.size;have hgz:g<w1.1.size:=by omega
 have hpi:(0:Int)<(ws.length:Int):=by omega
 clear hF hno hb1 hg1 hg2 hg3;clear hx;have c3:=H1.o.box.c 3 rfl;have HCM:=Zd (Nl g 0 qc ws w1 hpos (by omega) hcap HSh.o hI.o V1.o.now.1 V1.o.now.2.1 V1.o.now.2.2.2.1);have S1:=Zd (SStep.of_below (n:=q) (O:=OR q p bb xs ev fv uv) HB1.o HQ.o);go_wp2_with fail;refine HCM.o.mono ?_;rintro e w2 ⟨⟨lo2,lc2,rfl,hF2⟩,hb2⟩;have H2:=Zd (H1.o.later hb2);have V2:=Zd (V1.o.step (hb2.mono (Nat.le_of_lt (Nat.lt_of_le_of_lt hn H1.o.box.size))));have S2:=Zd (S1.o.trans (SStep.of_below hb2 (Nat.le_of_lt H1.o.box.size)));have hI2:=Zd hF2.in;obtain⟨R,hR⟩:=nmd (Df ws);have HGD:=Zd (fun hq=>cmdR_good (ws:=ws) hq);rw[←hR]at hI2 HGD ⊢;have HR2:=Zd hR;clear hR hF2 hb2 HCM c1 c3 cz d0 hI;obtain⟨kd,l,gd⟩:=R;dsimp only at hI2 HGD ⊢
 cases gd with
 |false =>
  clear HGD hI2;go_wp2;refine bodyPost_ret (v:=.string ⟨#[119,104,97,116]⟩) (by simp[results,results83,go_sem]) rfl ?_;rw[Sz,runA,←HR2.o];exact⟨rfl,bb,xs,ev,fv,uv,H2.o,S2.o⟩
 |true =>
  obtain⟨k,hk,rfl,hl⟩:=HGD.o rfl;have HOB:=Zd (obey_any n0 q w2 o c us hi lo p bb so sc xs ev fv uv st ea H2.o HGS.o HRG.o V2.o hn lo2 lc2 k hk l hl hI2.o);obtain⟨A,hA⟩:=nmd (Jl st ((k:Int)+1) l);rw[←hA]at HOB;have HA:=Zd hA;obtain⟨st2,T⟩:=A;dsimp only at HOB;clear hA HGD hl hI2;go_wp2_with fail;refine HOB.o.mono ?_;rintro e w3 ⟨rfl,bb',xs',ev',fv',uv',P3,S3⟩;have HP3:=Zd P3;have HS3:=Zd (S2.o.trans S3);clear P3 S3 HOB;go_wp2;refine bodyPost_ret (v:=.string T) (by simp[results,results83,go_sem]) rfl ?_;rw[Sz,runA,←HR2.o];dsimp only;rw[←HA.o];exact⟨rfl,bb',xs',ev',fv',uv',HP3.o,HS3.o⟩
theorem answer_add(n0 q:Nat)(W:World)(o:Option Addr)(c:Nat)(us:List LNode)(hi:Nat)(ea:Nat→Addr)(line:ByteArray)(ws:List ByteArray)(hws:ws=Zw line 32)(h:PA q W o c us hi)(hs:line.size≤3000)(hV:Env n0 W ea)(hn:n0≤q)(hw0:el ws 0=Xw) :
  Calls prog 83 #[.pointer (some ⟨q,0,none⟩),.string line] W (AnsAdd q W o us line):=by
 have HP:Zi (Calls prog 34 #[.string line,.int .i32 32] W (AnsS W ws)):=by rw[Zi,hws];exact Xj line 32 W (by omega) (by decide)
 have HSh:Zi (Ns ws):=by rw[Zi,hws];exact Qc 32 (by omega)
 have hL:ws.length≤line.size+1:=by rw[hws];exact Qr line 32
 have hpos:0<ws.length:=by rw[hws];exact Jd line 32
 have H:=Zd h;have HV:=Zd hV;have HN:Zi (n0≤W.1.size):=Nat.le_of_lt (Nat.lt_of_le_of_lt hn h.box.size);clear hws h hV;go_enter func83,ntmps83;go_wp2_with fail;refine HP.o.mono ?_;rintro e w1 ⟨⟨go,qc,rfl,hno,hF⟩,hb1⟩;obtain⟨g,rfl,hg1,hg2,hg3,_⟩:=hF.at hpos;have hcap:=hF.cap;have hI:=Zd hF.in;have d0:=Jf hI.o 0 hpos;have H1:=Zd (H.o.later hb1);have V1:=Zd (HV.o.step (hb1.mono HN.o));have HB1:=Zd hb1;have HQ:=Zd (Nat.le_of_lt H.o.box.size);obtain⟨x,hx⟩:=nmd (el ws 0);rw[←hx]at d0;have c1:=H1.o.box.c 1 rfl;have cz:=H1.o.box.size;have hgz:g<w1.1.size:=by omega
 have hpi:(0:Int)<(ws.length:Int):=by omega
 clear hF hno hb1 hg1 hg2 hg3;have hn0:x=Xw:=by rw[hx];exact hw0
 have f0:(x.toList==[110,111,100,101])=true:=by rw[hn0,show Xw.toList=[110,111,100,101]from by rw[Xw,Lib.toList_data]];rfl
 clear hx hw0 hn0;go_wp2_with fail;have HAD:=Zd (addNode_any q w1 o c us hi line H1.o hs V1.o.now.1 V1.o.now.2.1 V1.o.now.2.2.1);obtain⟨T,hT⟩:=nmd ((if(Kf line).2=true∧us.length≠10 then okT else noT));have HT:=Zd hT;refine HAD.o.mono ?_;rintro e w2 ⟨he,o',c',us',hi',P2,hu2,S2⟩;rw[←hT]at he;subst he;have HE:=Zd (show∃o' c' us' hi',PA q w2 o' c' us' hi'∧us'.map Zz=(if(Kf line).2=true∧us.length≠10 then us.map Zz++[pnode (Kf line).1]else us.map Zz)∧SStep q (OA q o) (OA q o') W w2 from⟨o',c',us',hi',P2,hu2,(SStep.of_below HB1.o HQ.o).trans S2⟩);clear P2 hu2 S2 HAD hT;go_wp2;refine bodyPost_ret (v:=.string T) (by simp[results,results83,go_sem]) rfl ?_;exact⟨by rw[HT.o],HE.o⟩
theorem answer_bad(n0 q:Nat)(W:World)(o:Option Addr)(c:Nat)(us:List LNode)(hi:Nat)(bad:Int)(ea:Nat→Addr)(line:ByteArray)(ws:List ByteArray)(hws:ws=Zw line 32)(h:PB q W o c us hi bad)(hs:line.size≤3000)(hV:Env n0 W ea)(hn:n0≤q) :
  Calls prog 83 #[.pointer (some ⟨q,0,none⟩),.string line] W (AnsPB q W o c us hi bad (OB q)):=by
 have HP:Zi (Calls prog 34 #[.string line,.int .i32 32] W (AnsS W ws)):=by rw[Zi,hws];exact Xj line 32 W (by omega) (by decide)
 have HSh:Zi (Ns ws):=by rw[Zi,hws];exact Qc 32 (by omega)
 have hL:ws.length≤line.size+1:=by rw[hws];exact Qr line 32
 have hpos:0<ws.length:=by rw[hws];exact Jd line 32
 have H:=Zd h;have HV:=Zd hV;have HN:Zi (n0≤W.1.size):=Nat.le_of_lt (Nat.lt_of_le_of_lt hn h.box.size);clear hws h hV;go_enter func83,ntmps83;go_wp2_with fail;refine HP.o.mono ?_;rintro e w1 ⟨⟨go,qc,rfl,hno,hF⟩,hb1⟩;obtain⟨g,rfl,hg1,hg2,hg3,_⟩:=hF.at hpos;have hcap:=hF.cap;have hI:=Zd hF.in;have d0:=Jf hI.o 0 hpos;have H1:=Zd (H.o.later hb1);have V1:=Zd (HV.o.step (hb1.mono HN.o));have HB1:=Zd hb1;have HQ:=Zd (Nat.le_of_lt H.o.box.size);obtain⟨x,hx⟩:=nmd (el ws 0);rw[←hx]at d0;have c1:=H1.o.box.c 1 rfl;have cz:=H1.o.box.size;have hgz:g<w1.1.size:=by omega
 have hpi:(0:Int)<(ws.length:Int):=by omega
 clear hF hno hb1 hg1 hg2 hg3;clear hx;have c2:=H1.o.box.c 2 rfl;have c3:=H1.o.box.c 3 rfl;obtain⟨T,hT⟩:=nmd (refT bad);rw[←hT]at c2;have HT:=Zd hT;clear hT;go_wp2;refine bodyPost_ret (v:=.string T) (by simp[results,results83,go_sem]) rfl ?_;exact⟨by rw[HT.o],H1.o,SStep.of_below HB1.o HQ.o⟩
end Go.Proofs.YtdacedbfnlkghaaGreatDoor