/- A pipe told in a line: both sides. A command's move: the program. A graph in its own memory to which a read node is added; what a script has come to, plainly. A script's object where it is not begun, and a node added: the program. errors.Is at the program's own errors. No conditions but those written. -/
import Derived.Deep.RegionLaw
import Derived.Test.YtdacedbfnlkghaaGreatDoorUEiMo
import Derived.LaidEql
import Derived.Stop.Asserts
import Derived.RowKitTokens
namespace Go.Proofs.YtdacedbfnlkghaaGreatDoor
set_option maxHeartbeats 8000000
set_option maxRecDepth 100000
open Go.RowKit Go.Proofs.Tryz
theorem countT_is(ao:Option Addr)(cap:Nat)(ls:List (List (Int×Int×Int)))(w:World)(hl:ls.length≤1048576∧Zs ls≤1048576)(hz:InTT w.1.size w ao ls) :
  Calls prog 169 #[.slice ao ls.length cap] w fun e w'=>e=.returned (.int .i64 (Zs ls:Int))∧w'=w:=by
 obtain⟨hs,hz⟩:=hz;have h1:=hl.1;have h2:=hl.2;go_enter func169,ntmps169;go_wp2
 go_loop [3,8] (fun v i=>∃k:Nat,k≤ls.length∧i=.int .i64 k∧v=.int .i64 (Zs (ls.take k):Int)) (fun _ i=>ls.length-(intOf i).toNat)
 case atStart=>exact⟨0,Nat.zero_le _,rfl,by simp[Zs]⟩
 case round =>
  obtain⟨k,hk,rfl,rfl⟩:=hrel
  by_cases hlt:k<ls.length
  ·obtain⟨b,off,o,c,rfl,hb,hc,_,_⟩:=hz.at hlt;have ht:=Ws hlt;have hle:=Kl hlt
   generalize(el ls k).length=x at hc ht hle
   have HT:=Zd ht;clear ht;go_wp2;go_round
   case rel=>exact⟨k+1,by omega,by go_num,by rw[HT.o];go_num⟩
   case measure=>simp[intOf];omega
  ·obtain rfl:k=ls.length:=by omega
   rw[List.take_length];go_wp2;go_ret;exact⟨rfl,rfl⟩
theorem liveS_is(ti it:Int)(cl:Bool)(ao:Option Addr)(cap:Nat)(ls:List (List (Int×Int×Int)))(emo:Option Addr)(nem emc:Nat)(fao:Option Addr)(nfa fac:Nat)(fuo:Option Addr)(nfu fuc:Nat)(w:World)(hl:ls.length≤1048576∧Zs ls≤1048576)(hz:InTT w.1.size w ao ls) :
  Calls prog 183 #[.agg #[.int .i64 ti,.int .i64 it,.bool cl,.slice ao ls.length cap,.slice emo nem emc,.slice fao nfa fac,.slice fuo nfu fuc]] w fun e w'=>e=.returned (.int .i64 (Zs ls:Int))∧Below w.1.size w w':=by
 obtain⟨hs,hz⟩:=hz;have h1:=hl.1;have h2:=hl.2;have hB:=Zk w (.cells #[.int .i64 ti,.int .i64 it,.bool cl,.slice ao ls.length cap,.slice emo nem emc,.slice fao nfa fac,.slice fuo nfu fuc] 48);have HZ:=Zd (hz.later hB);have HB:=Zd hB;obtain⟨V,hV⟩:=nmd (w.alloc (.cells #[.int .i64 ti,.int .i64 it,.bool cl,.slice ao ls.length cap,.slice emo nem emc,.slice fao nfa fac,.slice fuo nfu fuc] 48));rw[←hV]at HZ HB;have HV:=Zd hV;clear hV hz hB;go_enter func183,ntmps183;go_wp2;rw[←HV.o]
 go_loop [3,9] (fun v i=>∃k:Nat,k≤ls.length∧i=.int .i64 k∧v=.int .i64 (Zs (ls.take k):Int)) (fun _ i=>ls.length-(intOf i).toNat)
 case atStart=>exact⟨0,Nat.zero_le _,rfl,by simp[Zs]⟩
 case round =>
  obtain⟨k,hk,rfl,rfl⟩:=hrel
  by_cases hlt:k<ls.length
  ·obtain⟨b,off,o,c,rfl,hb,hc,_,_⟩:=HZ.o.at hlt;have ht:=Ws hlt;have hle:=Kl hlt
   generalize(el ls k).length=x at hc ht hle
   have HT:=Zd ht;clear ht;go_wp2;go_round
   case rel=>exact⟨k+1,by omega,by go_num,by rw[HT.o];go_num⟩
   case measure=>simp[intOf];omega
  ·obtain rfl:k=ls.length:=by omega
   rw[List.take_length];go_wp2;go_ret;exact⟨rfl,HB.o⟩
theorem ba_nil(a:ByteArray):a++tx []=a:=by apply ByteArray.ext;simp[tx,ByteArray.data_append]
theorem ba_assoc(a b c:ByteArray):(a++b)++c=a++(b++c):=by apply ByteArray.ext;simp[ByteArray.data_append]
def repP(it:Int)(nem nfa live:Nat)(cl:Bool):ByteArray :=
 (((((((tx [105,116,101,109,115,32]++tx (Lib.itoa it))++tx [32,101,109,105,116,116,101,100,32])++tx (Lib.itoa (nem:Int)))++tx [32,102,97,105,108,101,100,32])++tx (Lib.itoa (nfa:Int)))++tx [32,108,105,118,101,32])++tx (Lib.itoa (live:Int)))++(if cl then tx [32,99,108,111,115,101,100]else tx [])
theorem specReport_is(ti it:Int)(cl:Bool)(ao:Option Addr)(cap:Nat)(ls:List (List (Int×Int×Int)))(emo:Option Addr)(nem emc:Nat)(fao:Option Addr)(nfa fac:Nat)(fuo:Option Addr)(nfu fuc:Nat)(w:World)(hi0 : -9223372036854775808≤it)(hi1:it≤9223372036854775807)(hle:nem≤1048576)(hlf:nfa≤1048576)(hl:ls.length≤1048576∧Zs ls≤1048576)(hz:InTT w.1.size w ao ls) :
  Calls prog 142 #[.agg #[.int .i64 ti,.int .i64 it,.bool cl,.slice ao ls.length cap,.slice emo nem emc,.slice fao nfa fac,.slice fuo nfu fuc]] w fun e w'=>e=.returned (.string (repP it nem nfa (Zs ls) cl))∧Below w.1.size w w':=by
 have h2:=hl.2;have hN1:=fun W=>Jg it hi0 hi1 W
 have hN2:=fun W=>Jg (nem:Int) (by omega) (by omega) W
 have hN3:=fun W=>Jg (nfa:Int) (by omega) (by omega) W
 have hN4:=fun W=>Jg (Zs ls:Int) (by omega) (by omega) W
 have s1:(tx (Lib.itoa it)).size≤21:=by rw[Ki];exact Qx _ hi0 hi1
 have s2:(tx (Lib.itoa (nem:Int))).size≤21:=by rw[Ki];exact Qx _ (by omega) (by omega)
 have s3:(tx (Lib.itoa (nfa:Int))).size≤21:=by rw[Ki];exact Qx _ (by omega) (by omega)
 have s4:(tx (Lib.itoa (Zs ls:Int))).size≤21:=by rw[Ki];exact Qx _ (by omega) (by omega)
 have hR:repP it nem nfa (Zs ls) cl=(((((((tx [105,116,101,109,115,32]++tx (Lib.itoa it))++tx [32,101,109,105,116,116,101,100,32])++tx (Lib.itoa (nem:Int)))++tx [32,102,97,105,108,101,100,32])++tx (Lib.itoa (nfa:Int)))++tx [32,108,105,118,101,32])++tx (Lib.itoa (Zs ls:Int)))++(if cl then tx [32,99,108,111,115,101,100]else tx []):=rfl
 generalize tx (Lib.itoa it)=t1 at *
 generalize tx (Lib.itoa (nem:Int))=t2 at *
 generalize tx (Lib.itoa (nfa:Int))=t3 at *
 generalize tx (Lib.itoa (Zs ls:Int))=t4 at *
 have HR:=Zd hR;have HN1:=Zd hN1;have HN2:=Zd hN2;have HN3:=Zd hN3;have HN4:=Zd hN4;have HL:=Zd hl;have hB:=Zk w (.cells #[.int .i64 ti,.int .i64 it,.bool cl,.slice ao ls.length cap,.slice emo nem emc,.slice fao nfa fac,.slice fuo nfu fuc] 48);have XV:=Bx.new (w:=w) [.int .i64 ti,.int .i64 it,.bool cl,.slice ao ls.length cap,.slice emo nem emc,.slice fao nfa fac,.slice fuo nfu fuc] 48 rfl;have HZ:=Zd (hz.later hB);obtain⟨V,hV⟩:=nmd (w.alloc (.cells #[.int .i64 ti,.int .i64 it,.bool cl,.slice ao ls.length cap,.slice emo nem emc,.slice fao nfa fac,.slice fuo nfu fuc] 48));have XV':Bx V w.1.size [.int .i64 ti,.int .i64 it,.bool cl,.slice ao ls.length cap,.slice emo nem emc,.slice fao nfa fac,.slice fuo nfu fuc]:=by rw[hV];exact XV
 rw[←hV]at HZ hB;have HB:=Zd hB;have HV:=Zd hV;have HX:=Zd XV';clear hV hz hB XV XV' hN1 hN2 hN3 hN4 hR hl;go_enter func142,ntmps142;have hNE:=Vz V;have x0:=HX.o.at 0 rfl;have x1:=HX.o.at 1 rfl;have x2:=HX.o.at 2 rfl;have x3:=HX.o.at 3 rfl;have x4:=HX.o.at 4 rfl;have x5:=HX.o.at 5 rfl;have x6:=HX.o.at 6 rfl;go_wp2_with fail;rw[←HV.o];refine Qo V (by kernel_rfl) (by kernel_rfl) (Below.refl _ _) ?_
 repeat(go_big_quiet_step (first
  |(go_at_call 183;exact Calls.later (liveS_is ti it cl ao cap ls emo nem emc fao nfa fac fuo nfu fuc _ HL.o (by rename_i W;exact HZ.o.later W.h)))
  |(go_at_call 73;first|(with_reducible exact Calls.later (HN1.o _))|(with_reducible exact Calls.later (HN2.o _))|(with_reducible exact Calls.later (HN3.o _))|(with_reducible exact Calls.later (HN4.o _)))))
 refine wpQuiet_nil ?_;rintro w4 ⟨⟨w5,hb4⟩,hw5⟩;obtain rfl:w4=w5:=hw5;clear x0 x1 x2 x3 x4 x5 x6 hNE;have X4:=HX.o.later hb4;have y2:=X4.c 2 rfl;have HB4:=Zd (HB.o.trans (hb4.mono HB.o.size));clear hb4 X4
 cases cl
 ·go_wp2;go_ret;exact⟨by rw[HR.o,if_neg (by simp),ba_nil];rfl,HB4.o⟩
 ·go_wp2;go_ret;exact⟨by rw[HR.o];rfl,HB4.o⟩
theorem implReport_is(ti it:Int)(cl:Bool)(ao:Option Addr)(cap:Nat)(ls:List (List (Int×Int×Int)))(emo:Option Addr)(nem emc:Nat)(fao:Option Addr)(nfa fac:Nat)(fuo:Option Addr)(nfu fuc:Nat)(w:World)(hi0 : -9223372036854775808≤it)(hi1:it≤9223372036854775807)(hle:nem≤1048576)(hlf:nfa≤1048576)(hl:ls.length≤1048576∧Zs ls≤1048576)(hz:InTT w.1.size w ao ls)(hT:PowTab w) :
  Calls prog 129 #[.agg #[.int .i64 ti,.int .i64 it,.bool cl,.slice ao ls.length cap,.slice emo nem emc,.slice fao nfa fac,.slice fuo nfu fuc]] w fun e w'=>e=.returned (.string (repP it nem nfa (Zs ls) cl))∧Below w.1.size w w':=by
 have h2:=hl.2;have hN1:=fun W=>Vv it hi0 hi1 W
 have hN2:=fun W=>Vv (nem:Int) (by omega) (by omega) W
 have hN3:=fun W=>Vv (nfa:Int) (by omega) (by omega) W
 have hN4:=fun W=>Vv (Zs ls:Int) (by omega) (by omega) W
 have s1:(tx (Lib.itoa it)).size≤21:=by rw[Ki];exact Qx _ hi0 hi1
 have s2:(tx (Lib.itoa (nem:Int))).size≤21:=by rw[Ki];exact Qx _ (by omega) (by omega)
 have s3:(tx (Lib.itoa (nfa:Int))).size≤21:=by rw[Ki];exact Qx _ (by omega) (by omega)
 have s4:(tx (Lib.itoa (Zs ls:Int))).size≤21:=by rw[Ki];exact Qx _ (by omega) (by omega)
 have hR:repP it nem nfa (Zs ls) cl=(((tx [105,116,101,109,115,32]++tx (Lib.itoa it))++(tx [32,101,109,105,116,116,101,100,32]++tx (Lib.itoa (nem:Int))))++(tx [32,102,97,105,108,101,100,32]++tx (Lib.itoa (nfa:Int))))++(tx [32,108,105,118,101,32]++tx (Lib.itoa (Zs ls:Int)))++(if cl then tx [32,99,108,111,115,101,100]else tx []):=by simp only[repP,ba_assoc]
 generalize tx (Lib.itoa it)=t1 at *
 generalize tx (Lib.itoa (nem:Int))=t2 at *
 generalize tx (Lib.itoa (nfa:Int))=t3 at *
 generalize tx (Lib.itoa (Zs ls:Int))=t4 at *
 have HR:=Zd hR;have HN1:=Zd hN1;have HN2:=Zd hN2;have HN3:=Zd hN3;have HN4:=Zd hN4;have HL:=Zd hl;have hB0:=Zk w (.cells #[.int .i64 ti,.int .i64 it,.bool cl,.slice ao ls.length cap,.slice emo nem emc,.slice fao nfa fac,.slice fuo nfu fuc] 48);have X0:=Zd (Bx.new (w:=w) [.int .i64 ti,.int .i64 it,.bool cl,.slice ao ls.length cap,.slice emo nem emc,.slice fao nfa fac,.slice fuo nfu fuc] 48 rfl);have HZ:=Zd hz;have HT:=Zd hT;clear hz hT hN1 hN2 hN3 hN4 hR hl;go_enter func129,ntmps129;go_wp2_with fail;refine(HN1.o _ (HT.o.later hB0)).mono ?_;rintro e w1 ⟨rfl,hb1⟩;have hB1:=hB0.trans (hb1.mono hB0.size);have X1:=Zd (X0.o.later hb1);clear hb1 X0 hB0;have x4:=X1.o.c 4 rfl;go_wp2_with fail;refine(HN2.o _ (HT.o.later hB1)).mono ?_;rintro e w2 ⟨rfl,hb2⟩;have hB2:=hB1.trans (hb2.mono hB1.size);have X2:=Zd (X1.o.later hb2);clear hb2 X1 hB1 x4;have x5:=X2.o.c 5 rfl;go_wp2_with fail;refine(HN3.o _ (HT.o.later hB2)).mono ?_;rintro e w3 ⟨rfl,hb3⟩;have hB3:=hB2.trans (hb3.mono hB2.size);have X3:=Zd (X2.o.later hb3);clear hb3 X2 hB2 x5;have x3:=X3.o.c 3 rfl;go_wp2_with fail;refine(countT_is ao cap ls _ HL.o (HZ.o.later hB3)).mono ?_;rintro e w4 ⟨rfl,hw4⟩;rw[hw4];clear hw4 w4
 go_wp2_with fail;refine(HN4.o _ (HT.o.later hB3)).mono ?_;rintro e w4 ⟨rfl,hb4⟩;have HB4:=Zd (hB3.trans (hb4.mono hB3.size));have y2:=(X3.o.later hb4).c 2 rfl;clear hb4 X3 hB3 x3
 cases cl
 ·go_wp2;go_ret;exact⟨by rw[HR.o,if_neg (by simp),ba_nil];rfl,HB4.o⟩
 ·go_wp2;go_ret;exact⟨by rw[HR.o];rfl,HB4.o⟩
def mvR(k:Int)(l:List Int):Int×Int×Int:=if k=1 then(k,el l 0,el l 1)else if k=2∨k=3 then(k,el l 0,0)else if k=4 then(k,0,el l 0)else(k,0,0)
theorem moveOf_1(x0 x1:Int)(ao:Option Addr)(c:Nat)(w:World)(hz:kI.In w.1.size w ao ([x0,x1]:List Int)) :
  Calls prog 136 #[.int .i64 1,.slice ao 2 c] w fun e w'=>e=.returned (.agg #[.int .i64 1,.int .i64 x0,.int .i64 x1])∧Below w.1.size w w':=by
 obtain⟨b,off,rfl,hb,hc⟩:=Zo hz (k:=0) (by simp);have d0:w.cell? ⟨b,off,none⟩=some (.int .i64 x0):=hc 0 (by simp);have d1:w.cell? ⟨b,off+1,none⟩=some (.int .i64 x1):=hc 1 (by simp);clear hc hz;obtain⟨w1,h1⟩:=nmd ((w.alloc (.cells #[.int .i64 0,.int .i64 0,.int .i64 0] 127)).alloc (.cells #[.int .i64 1,.int .i64 0,.int .i64 0] 127));have hb1:Below w.1.size w w1:=by rw[h1];exact Qf _ _ _
 have hs1:w1.1.size=w.1.size+2:=by rw[h1];simp
 have XR:Bx w1 w.1.size [.int .i64 0,.int .i64 0,.int .i64 0]:=by rw[h1];exact(Bx.new (w:=w) [.int .i64 0,.int .i64 0,.int .i64 0] _ rfl).alloc _
 have XA:Bx w1 (w.1.size+1) [.int .i64 1,.int .i64 0,.int .i64 0]:=by rw[h1];exact Bx.new (w:=w.alloc (.cells #[.int .i64 0,.int .i64 0,.int .i64 0] 127)) [.int .i64 1,.int .i64 0,.int .i64 0] _ (by simp)
 have H1:=Zd h1;have e0:=(hb1.cell (p:=⟨b,off,none⟩) hb).trans d0;have e1:=(hb1.cell (p:=⟨b,off+1,none⟩) hb).trans d1;have HB1:=Zd hb1;have hsz:=hs1;clear h1 hb1 hs1 d0 d1;obtain⟨r0,r1,r2⟩:=XR.y3;have s0:=XR.f 0 rfl;have s1:=XR.f 1 rfl;have s2:=XR.f 2 rfl;obtain⟨a0,a1,a2⟩:=XA.y3;have b0:=XA.f 0 rfl;have b1:=XA.f 1 rfl;have b2:=XA.f 2 rfl;clear XR XA;go_enter func136,ntmps136
 go_upto_region 2 with fail
 rw[←H1.o];clear H1;go_wp2
 go_region
 all_goals go_wp2
 all_goals refine bodyPost_ret (v:=.agg #[.int .i64 1,.int .i64 x0,.int .i64 x1]) (by simp[results,results136,go_sem,r0,r1,r2]) rfl ⟨rfl,?_⟩
 all_goals repeat' (first|exact HB1.o|refine Below.drew ?_|refine Below.setCell ?_ (by dsimp only;omega) _)
theorem moveOf_2(x0:Int)(ao:Option Addr)(c:Nat)(w:World)(hz:kI.In w.1.size w ao ([x0]:List Int)) :
  Calls prog 136 #[.int .i64 2,.slice ao 1 c] w fun e w'=>e=.returned (.agg #[.int .i64 2,.int .i64 x0,.int .i64 0])∧Below w.1.size w w':=by
 obtain⟨b,off,rfl,hb,hc⟩:=Zo hz (k:=0) (by simp);have d0:w.cell? ⟨b,off,none⟩=some (.int .i64 x0):=hc 0 (by simp);clear hc hz;obtain⟨w1,h1⟩:=nmd ((w.alloc (.cells #[.int .i64 0,.int .i64 0,.int .i64 0] 127)).alloc (.cells #[.int .i64 2,.int .i64 0,.int .i64 0] 127));have hb1:Below w.1.size w w1:=by rw[h1];exact Qf _ _ _
 have hs1:w1.1.size=w.1.size+2:=by rw[h1];simp
 have XR:Bx w1 w.1.size [.int .i64 0,.int .i64 0,.int .i64 0]:=by rw[h1];exact(Bx.new (w:=w) [.int .i64 0,.int .i64 0,.int .i64 0] _ rfl).alloc _
 have XA:Bx w1 (w.1.size+1) [.int .i64 2,.int .i64 0,.int .i64 0]:=by rw[h1];exact Bx.new (w:=w.alloc (.cells #[.int .i64 0,.int .i64 0,.int .i64 0] 127)) [.int .i64 2,.int .i64 0,.int .i64 0] _ (by simp)
 have H1:=Zd h1;have e0:=(hb1.cell (p:=⟨b,off,none⟩) hb).trans d0;have HB1:=Zd hb1;have hsz:=hs1;clear h1 hb1 hs1 d0;obtain⟨r0,r1,r2⟩:=XR.y3;have s0:=XR.f 0 rfl;have s1:=XR.f 1 rfl;have s2:=XR.f 2 rfl;obtain⟨a0,a1,a2⟩:=XA.y3;have b0:=XA.f 0 rfl;have b1:=XA.f 1 rfl;have b2:=XA.f 2 rfl;clear XR XA;go_enter func136,ntmps136
 go_upto_region 2 with fail
 rw[←H1.o];clear H1;go_wp2
 all_goals refine bodyPost_ret (v:=.agg #[.int .i64 2,.int .i64 x0,.int .i64 0]) (by simp[results,results136,go_sem,r0,r1,r2]) rfl ⟨rfl,?_⟩
 all_goals repeat' (first|exact HB1.o|refine Below.drew ?_|refine Below.setCell ?_ (by dsimp only;omega) _)
theorem moveOf_3(x0:Int)(ao:Option Addr)(c:Nat)(w:World)(hz:kI.In w.1.size w ao ([x0]:List Int)) :
  Calls prog 136 #[.int .i64 3,.slice ao 1 c] w fun e w'=>e=.returned (.agg #[.int .i64 3,.int .i64 x0,.int .i64 0])∧Below w.1.size w w':=by
 obtain⟨b,off,rfl,hb,hc⟩:=Zo hz (k:=0) (by simp);have d0:w.cell? ⟨b,off,none⟩=some (.int .i64 x0):=hc 0 (by simp);clear hc hz;obtain⟨w1,h1⟩:=nmd ((w.alloc (.cells #[.int .i64 0,.int .i64 0,.int .i64 0] 127)).alloc (.cells #[.int .i64 3,.int .i64 0,.int .i64 0] 127));have hb1:Below w.1.size w w1:=by rw[h1];exact Qf _ _ _
 have hs1:w1.1.size=w.1.size+2:=by rw[h1];simp
 have XR:Bx w1 w.1.size [.int .i64 0,.int .i64 0,.int .i64 0]:=by rw[h1];exact(Bx.new (w:=w) [.int .i64 0,.int .i64 0,.int .i64 0] _ rfl).alloc _
 have XA:Bx w1 (w.1.size+1) [.int .i64 3,.int .i64 0,.int .i64 0]:=by rw[h1];exact Bx.new (w:=w.alloc (.cells #[.int .i64 0,.int .i64 0,.int .i64 0] 127)) [.int .i64 3,.int .i64 0,.int .i64 0] _ (by simp)
 have H1:=Zd h1;have e0:=(hb1.cell (p:=⟨b,off,none⟩) hb).trans d0;have HB1:=Zd hb1;have hsz:=hs1;clear h1 hb1 hs1 d0;obtain⟨r0,r1,r2⟩:=XR.y3;have s0:=XR.f 0 rfl;have s1:=XR.f 1 rfl;have s2:=XR.f 2 rfl;obtain⟨a0,a1,a2⟩:=XA.y3;have b0:=XA.f 0 rfl;have b1:=XA.f 1 rfl;have b2:=XA.f 2 rfl;clear XR XA;go_enter func136,ntmps136
 go_upto_region 2 with fail
 rw[←H1.o];clear H1;go_wp2
 all_goals refine bodyPost_ret (v:=.agg #[.int .i64 3,.int .i64 x0,.int .i64 0]) (by simp[results,results136,go_sem,r0,r1,r2]) rfl ⟨rfl,?_⟩
 all_goals repeat' (first|exact HB1.o|refine Below.drew ?_|refine Below.setCell ?_ (by dsimp only;omega) _)
theorem moveOf_4(x0:Int)(ao:Option Addr)(c:Nat)(w:World)(hz:kI.In w.1.size w ao ([x0]:List Int)) :
  Calls prog 136 #[.int .i64 4,.slice ao 1 c] w fun e w'=>e=.returned (.agg #[.int .i64 4,.int .i64 0,.int .i64 x0])∧Below w.1.size w w':=by
 obtain⟨b,off,rfl,hb,hc⟩:=Zo hz (k:=0) (by simp);have d0:w.cell? ⟨b,off,none⟩=some (.int .i64 x0):=hc 0 (by simp);clear hc hz;obtain⟨w1,h1⟩:=nmd ((w.alloc (.cells #[.int .i64 0,.int .i64 0,.int .i64 0] 127)).alloc (.cells #[.int .i64 4,.int .i64 0,.int .i64 0] 127));have hb1:Below w.1.size w w1:=by rw[h1];exact Qf _ _ _
 have hs1:w1.1.size=w.1.size+2:=by rw[h1];simp
 have XR:Bx w1 w.1.size [.int .i64 0,.int .i64 0,.int .i64 0]:=by rw[h1];exact(Bx.new (w:=w) [.int .i64 0,.int .i64 0,.int .i64 0] _ rfl).alloc _
 have XA:Bx w1 (w.1.size+1) [.int .i64 4,.int .i64 0,.int .i64 0]:=by rw[h1];exact Bx.new (w:=w.alloc (.cells #[.int .i64 0,.int .i64 0,.int .i64 0] 127)) [.int .i64 4,.int .i64 0,.int .i64 0] _ (by simp)
 have H1:=Zd h1;have e0:=(hb1.cell (p:=⟨b,off,none⟩) hb).trans d0;have HB1:=Zd hb1;have hsz:=hs1;clear h1 hb1 hs1 d0;obtain⟨r0,r1,r2⟩:=XR.y3;have s0:=XR.f 0 rfl;have s1:=XR.f 1 rfl;have s2:=XR.f 2 rfl;obtain⟨a0,a1,a2⟩:=XA.y3;have b0:=XA.f 0 rfl;have b1:=XA.f 1 rfl;have b2:=XA.f 2 rfl;clear XR XA;go_enter func136,ntmps136
 go_upto_region 2 with fail
 rw[←H1.o];clear H1;go_wp2
 all_goals refine bodyPost_ret (v:=.agg #[.int .i64 4,.int .i64 0,.int .i64 x0]) (by simp[results,results136,go_sem,r0,r1,r2]) rfl ⟨rfl,?_⟩
 all_goals repeat' (first|exact HB1.o|refine Below.drew ?_|refine Below.setCell ?_ (by dsimp only;omega) _)
theorem moveOf_5(ao:Option Addr)(c:Nat)(w:World)(_hz:kI.In w.1.size w ao ([]:List Int)) :
  Calls prog 136 #[.int .i64 5,.slice ao 0 c] w fun e w'=>e=.returned (.agg #[.int .i64 5,.int .i64 0,.int .i64 0])∧Below w.1.size w w':=by
 obtain⟨w1,h1⟩:=nmd ((w.alloc (.cells #[.int .i64 0,.int .i64 0,.int .i64 0] 127)).alloc (.cells #[.int .i64 5,.int .i64 0,.int .i64 0] 127));have hb1:Below w.1.size w w1:=by rw[h1];exact Qf _ _ _
 have hs1:w1.1.size=w.1.size+2:=by rw[h1];simp
 have XR:Bx w1 w.1.size [.int .i64 0,.int .i64 0,.int .i64 0]:=by rw[h1];exact(Bx.new (w:=w) [.int .i64 0,.int .i64 0,.int .i64 0] _ rfl).alloc _
 have XA:Bx w1 (w.1.size+1) [.int .i64 5,.int .i64 0,.int .i64 0]:=by rw[h1];exact Bx.new (w:=w.alloc (.cells #[.int .i64 0,.int .i64 0,.int .i64 0] 127)) [.int .i64 5,.int .i64 0,.int .i64 0] _ (by simp)
 have H1:=Zd h1;have HB1:=Zd hb1;have hsz:=hs1;clear h1 hb1 hs1;obtain⟨r0,r1,r2⟩:=XR.y3;have s0:=XR.f 0 rfl;have s1:=XR.f 1 rfl;have s2:=XR.f 2 rfl;obtain⟨a0,a1,a2⟩:=XA.y3;have b0:=XA.f 0 rfl;have b1:=XA.f 1 rfl;have b2:=XA.f 2 rfl;clear XR XA;go_enter func136,ntmps136
 go_upto_region 2 with fail
 rw[←H1.o];clear H1;go_wp2
 all_goals refine bodyPost_ret (v:=.agg #[.int .i64 5,.int .i64 0,.int .i64 0]) (by simp[results,results136,go_sem,r0,r1,r2]) rfl ⟨rfl,?_⟩
 all_goals repeat' (first|exact HB1.o|refine Below.drew ?_|refine Below.setCell ?_ (by dsimp only;omega) _)
theorem moveOf_6(ao:Option Addr)(c:Nat)(w:World)(_hz:kI.In w.1.size w ao ([]:List Int)) :
  Calls prog 136 #[.int .i64 6,.slice ao 0 c] w fun e w'=>e=.returned (.agg #[.int .i64 6,.int .i64 0,.int .i64 0])∧Below w.1.size w w':=by
 obtain⟨w1,h1⟩:=nmd ((w.alloc (.cells #[.int .i64 0,.int .i64 0,.int .i64 0] 127)).alloc (.cells #[.int .i64 6,.int .i64 0,.int .i64 0] 127));have hb1:Below w.1.size w w1:=by rw[h1];exact Qf _ _ _
 have hs1:w1.1.size=w.1.size+2:=by rw[h1];simp
 have XR:Bx w1 w.1.size [.int .i64 0,.int .i64 0,.int .i64 0]:=by rw[h1];exact(Bx.new (w:=w) [.int .i64 0,.int .i64 0,.int .i64 0] _ rfl).alloc _
 have XA:Bx w1 (w.1.size+1) [.int .i64 6,.int .i64 0,.int .i64 0]:=by rw[h1];exact Bx.new (w:=w.alloc (.cells #[.int .i64 0,.int .i64 0,.int .i64 0] 127)) [.int .i64 6,.int .i64 0,.int .i64 0] _ (by simp)
 have H1:=Zd h1;have HB1:=Zd hb1;have hsz:=hs1;clear h1 hb1 hs1;obtain⟨r0,r1,r2⟩:=XR.y3;have s0:=XR.f 0 rfl;have s1:=XR.f 1 rfl;have s2:=XR.f 2 rfl;obtain⟨a0,a1,a2⟩:=XA.y3;have b0:=XA.f 0 rfl;have b1:=XA.f 1 rfl;have b2:=XA.f 2 rfl;clear XR XA;go_enter func136,ntmps136
 go_upto_region 2 with fail
 rw[←H1.o];clear H1;go_wp2
 all_goals refine bodyPost_ret (v:=.agg #[.int .i64 6,.int .i64 0,.int .i64 0]) (by simp[results,results136,go_sem,r0,r1,r2]) rfl ⟨rfl,?_⟩
 all_goals repeat' (first|exact HB1.o|refine Below.drew ?_|refine Below.setCell ?_ (by dsimp only;omega) _)
theorem moveOf_is(k:Nat)(hk:k<6)(ao:Option Addr)(c:Nat)(l:List Int)(w:World)(hl:l.length=Uh k)(hz:kI.In w.1.size w ao l) :
  Calls prog 136 #[.int .i64 ((k:Int)+1),.slice ao l.length c] w fun e w'=>e=.returned (.agg #[.int .i64 (mvR ((k:Int)+1) l).1,.int .i64 (mvR ((k:Int)+1) l).2.1,.int .i64 (mvR ((k:Int)+1) l).2.2])∧Below w.1.size w w':=by
 rcases(show k=0∨k=1∨k=2∨k=3∨k=4∨k=5 from by omega)with rfl|rfl|rfl|rfl|rfl|rfl
 ·match l,hl with
  | [x,y],_=>exact moveOf_1 x y ao c w hz
 ·match l,hl with
  | [x],_=>exact moveOf_2 x ao c w hz
 ·match l,hl with
  | [x],_=>exact moveOf_3 x ao c w hz
 ·match l,hl with
  | [x],_=>exact moveOf_4 x ao c w hz
 ·match l,hl with
  | [],_=>exact moveOf_5 ao c w hz
 ·match l,hl with
  | [],_=>exact moveOf_6 ao c w hz
section
open Go.RowKit
def GR(lo hi:Nat)(W:World)(o:Option Addr)(c:Nat)(us:List LNode):Prop:=DFr Ja lo hi W o c us∧Pf.RW lo hi W o c us
section
variable {lo hi:Nat} {W W':World} {o:Option Addr} {c:Nat} {us:List LNode}
theorem GR.keep(h:GR lo hi W o c us)(hk:∀k,lo≤k→k<hi→k<W.1.size→W'.heap[k]? = W.heap[k]?):GR lo hi W' o c us:=⟨h.1.keep Zf hk,h.2.keep hk⟩
theorem GR.later(h:GR lo hi W o c us)(hb:Below W.1.size W W'):GR lo hi W' o c us:=h.keep fun k _ _ hk=>hb.block k hk
theorem GR.below(h:GR lo hi W o c us){n:Nat}(hb:Below n W W')(hn:hi≤n):GR lo hi W' o c us:=h.keep fun k _ h2 _=>hb.block k (by omega)
theorem GR.setOff(h:GR lo hi W o c us){a:Addr}(ha:a.block<lo∨hi≤a.block)(u:Value):GR lo hi (W.setCell a u) o c us:=h.keep fun k h1 h2 _=>Below.heap_setCell W a u k (by omega)
theorem gr_nil:GR lo hi W none 0 []:=⟨DFr.nil _ _ _ _ _,Kind.RW.nil⟩
theorem GR.in(h:GR lo hi W o c us):DIn Ja W.1.size W o us:=h.1.in Zf
theorem GR.cap(h:GR lo hi W o c us):us.length≤c:=h.2.cap
theorem gr_app{nm:ByteArray}{kd sa sb cp:Int}{nxo:Option Addr}{nxc:Nat}{nx:List Int}{v':Value}(h:GR lo hi W o c us)(hx:kI.Fresh hi W.1.size W nxo nxc nx)(hlo:lo≤hi)(hhi:hi≤W.1.size)
  (hO:Pf.Own lo W' v' (us++[((nm,kd,sa,sb,cp,(nxo,nxc,nx)):LNode)])) (hG:W.grownBy W' (Value.slice o us.length c).ownBlock) :
  ∃tq tc,v'=.slice tq (us++[((nm,kd,sa,sb,cp,(nxo,nxc,nx)):LNode)]).length tc∧GR lo W'.1.size W' tq tc (us++[((nm,kd,sa,sb,cp,(nxo,nxc,nx)):LNode)]):=by
 obtain⟨tq,tc,rfl,hO2⟩:=hO.as;have hg:∀k:Nat,k<W.1.size→(∃cur,W.heap[k]? = some (.cells cur 27 (0,0)))∨W'.heap[k]? = W.heap[k]? := fun k hk=>by
  by_cases e:(Value.slice o us.length c).ownBlock=some k
  ·exact .inl (own_type h.2.1 e)
  ·exact .inr (hG.block k hk fun e2=>e e2.symm)
 have hne:∀(b:Nat) cur t,W.heap[b]? = some (.cells cur t (0,0))→t≠27→W'.heap[b]? = W.heap[b]? := fun b cur t hb ht=>by
  rcases hg b (Array.getElem?_eq_some_iff.1 hb).1 with⟨cur2,h2⟩|h2
  ·rw[hb]at h2;simp at h2;exact absurd h2.2 ht
  ·exact h2
 have hX:Ja.Fr hi W.1.size W ((nm,kd,sa,sb,cp,(nxo,nxc,nx)):LNode):=hx;refine⟨tq,tc,rfl,DFr.wide Zf (DFr.snoc (hi2:=W'.1.size) Zf h.1 (Zf.wide hX (Nat.le_refl _) hG.size) hlo (Nat.le_trans hhi hG.size) (fresh_rw (Kind.RW.of hO2)) fun b hb=>?_) (Nat.le_refl _) (Nat.le_refl _),Kind.RW.of hO2⟩
 rcases hb with⟨j,hj,hb⟩|hb
 ·obtain⟨_,_,_,cur,t,h4,h5⟩:=Zf.lt (h.1.2.1 j hj) hb;exact hne b cur t h4 h5
 ·obtain⟨_,_,_,cur,t,h4,h5⟩:=Zf.lt hX hb;exact hne b cur t h4 h5
end
def FitR(us:List LNode):Prop:=us.length≤10∧∀a∈us,a.1.size≤3000∧a.2.2.2.2.2.2.2.length≤20
theorem FitR.roomy{lo hi:Nat}{W:World}{o:Option Addr}{c:Nat}{us:List LNode}(h:FitR us)(hz:GR lo hi W o c us):Roomy us c :=
 ⟨hz.cap,fun a ha=>by obtain⟨j,hj,rfl⟩:=Gx ha;exact Kind.Fresh.cap (hz.1.2.1 j hj),fun a ha=>by have:=h.2 a ha;omega,by have:=h.1;omega⟩
structure SS where
 gs:List PNode
 bg:Bool
 bad:Int
 s:PP
 n:Nat
def Hz(gs:List PNode):Int:=if Qa gs=0 then(if Ue gs≤400 then 0 else 8)else(Qa gs:Int)
def Nr(st:SS):SS:=if st.bg then st else{ st with bg:=true,bad:=Hz st.gs,s:=pp0 st.gs.length,n:=0 }
def refT(c:Int):ByteArray:=tx [103,114,97,112,104,32]++tx (Lib.itoa c)
def okT:ByteArray:=⟨#[111,107]⟩
def noT:ByteArray:=⟨#[110,111]⟩
def Nb:ByteArray:=⟨#[119,104,97,116]⟩
def Xw:ByteArray:=⟨#[110,111,100,101]⟩
def pnode(v:ByteArray×Int×Int×Int×Int×List Int):PNode:=v
noncomputable def addR(st:SS)(line:ByteArray):SS×ByteArray :=
 if(Kf line).2=true∧st.gs.length≠10 then({ st with gs:=st.gs++[pnode (Kf line).1] },okT)else(st,noT)
def movR(st:SS)(m:Int×Int×Int):SS×ByteArray :=
 if st.n=300 then(st,Nb)
 else({ st with s:=(doR st.gs (Ke st.gs st.gs.length) st.s m.1 m.2.1 m.2.2).2,n:=st.n+1 },
  if(doR st.gs (Ke st.gs st.gs.length) st.s m.1 m.2.1 m.2.2).1=0 then okT else tx [110,111,32]++tx (Lib.itoa (doR st.gs (Ke st.gs st.gs.length) st.s m.1 m.2.1 m.2.2).1))
noncomputable def Jl(st:SS)(k:Int)(l:List Int):SS×ByteArray :=
 if k=7 then({ st with s:=itS st.gs (Rf st.gs st.s) { st.s with cl:=true } },tx [115,116,101,112,115,32]++tx (Lib.itoa (Rf st.gs st.s:Int)))
 else if k=8 then(st,repP st.s.it st.s.em.length st.s.fa.length (Zs st.s.bx) st.s.cl)
 else if k=9 then(st,Qt ⟨#[111,117,116]⟩ (st.s.em.map Jj))
 else if k=10 then(st,Qt ⟨#[108,111,115,116]⟩ (st.s.fa.map Qv))
 else if k=11 then(st,if(Xy st.gs (el l 0) (el l 1)).2=true then Qt ⟨#[109,101,97,110]⟩ ((Xy st.gs (el l 0) (el l 1)).1.map Qj)else noT)
 else movR st (mvR k l)
noncomputable def Lc(st:SS)(line:ByteArray):SS×ByteArray :=
 if st.bg=false∧el (Zw line 32) 0=Xw then addR st line
 else if(Nr st).bad≠0 then(Nr st,refT (Nr st).bad)
 else match Df (Zw line 32)with
  |(k,l,true)=>Jl (Nr st) k l
  |(_,_,false)=>(Nr st,Nb)
def st0:SS:={ gs:=[],bg:=false,bad:=0,s:=pp0 0,n:=0 }
noncomputable def Qz:SS→List ByteArray→SS×List ByteArray
 |st,[]=>(st,[])
 |st,x::r=>((Qz (Lc st x).1 r).1,(Lc st x).2::(Qz (Lc st x).1 r).2)
end
structure SStep(n:Nat)(O O':Nat→Prop)(W W':World):Prop where
 low:Below n W W'
 block:∀b,b<W.1.size→¬O b→W'.heap[b]? = W.heap[b]?
 own:∀b,O' b→O b∨W.1.size≤b
theorem SStep.refl(n:Nat)(O:Nat→Prop)(W:World):SStep n O O W W:=⟨⟨rfl,rfl,rfl,Nat.le_refl _,fun _ _=>rfl⟩,fun _ _ _=>rfl,fun _ h=>.inl h⟩
theorem SStep.trans{n:Nat}{O O' O'':Nat→Prop}{a b c:World}(h:SStep n O O' a b)(k:SStep n O' O'' b c):SStep n O O'' a c :=
 ⟨h.low.trans k.low,fun i hi hn=>(k.block i (Nat.lt_of_lt_of_le hi h.low.size) fun e=>(h.own i e).elim hn fun e2=>by omega).trans (h.block i hi hn),fun i hi=>(k.own i hi).elim (fun e=>h.own i e) fun e=>.inr (Nat.le_trans h.low.size e)⟩
theorem SStep.of_below{n:Nat}{O:Nat→Prop}{a b:World}(h:Below a.1.size a b)(hn:n≤a.1.size):SStep n O O a b:=⟨h.mono hn,fun i hi _=>h.block i hi,fun _ h=>.inl h⟩
theorem SStep.set{n:Nat}{O:Nat→Prop}{W:World}{a:Addr}(hO:O a.block)(hn:n≤a.block)(u:Value):SStep n O O W (W.setCell a u) :=
 ⟨(Below.refl n W).setCell hn _,fun b _ hb=>Below.heap_setCell W a u b fun e=>hb (by rw[e];exact hO),fun _ h=>.inl h⟩
theorem rw_block{α:Type}{K:Kind α}{lo hi:Nat}{W:World}{ao:Option Addr}{n c:Nat}{xs:List α}(h:K.RW lo hi W ao c xs){b:Nat}(hb:(Value.slice ao n c).ownBlock=some b):lo≤b∧b<hi:=by
 rcases h.1.2 with⟨e,_⟩|⟨g,cap,cur,e,hg,_⟩
 ·simp at e
  rw[e.1]at hb;simp[Value.ownBlock]at hb
 ·simp at e
  obtain⟨rfl,_⟩:=e
  simp[Value.ownBlock]at hb
  subst hb;exact⟨hg,h.2 g 0 rfl⟩
def OA(q:Nat)(o:Option Addr)(b:Nat):Prop:=b=q∨∃a,o=some a∧a.block=b
structure PA(q:Nat)(W:World)(o:Option Addr)(c:Nat)(us:List LNode)(hi:Nat):Prop where
 box:Bx W q [.slice o us.length c,.bool false,.string ⟨#[]⟩,.pointer none,.int .i64 0]
 gr:GR (q+1) hi W o c us
 fit:FitR us
 hi1:hi≤W.1.size
 hi0:q+1≤hi
theorem PA.later{q:Nat}{W W':World}{o:Option Addr}{c:Nat}{us:List LNode}{hi:Nat}(h:PA q W o c us hi)(hb:Below W.1.size W W'):PA q W' o c us hi:=⟨h.box.later hb,h.gr.later hb,h.fit,Nat.le_trans h.hi1 hb.size,h.hi0⟩
theorem PA.own{q:Nat}{W:World}{o:Option Addr}{c:Nat}{us:List LNode}{hi:Nat}(h:PA q W o c us hi):∀b,OA q o b→q≤b:=fun b hb=>by
 rcases hb with rfl|⟨a,rfl,rfl⟩
 ·exact Nat.le_refl _
 ·rcases h.gr.2.1.2 with⟨e,_⟩|⟨g,cap,cur,e,hg,_⟩
  ·cases e
  ·simp at e;rw[e.1];dsimp only;omega
theorem readR_fit{s:ByteArray}(hs:s.size≤3000)(h:(Kf s).2=true):(Kf s).1.1.size≤3000∧(Kf s).1.2.2.2.2.2.length≤20:=by
 unfold Kf at h ⊢
 split at h
 ·split at h
  ·rename_i h1 h2;rw[if_pos h1,if_pos h2];have hm:el (Zw s 32) 1∈Zw s 32:=Zl (by omega);exact⟨Nat.le_trans (Xb s 32 _ _ _ _ hm) hs,(Lv h2.2.2.2).len⟩
  ·cases h
 ·cases h
def AnsAdd(q:Nat)(W:World)(o:Option Addr)(us:List LNode)(line:ByteArray)(e:Ending)(W':World):Prop:=e=.returned (.string (if(Kf line).2=true∧us.length≠10 then okT else noT))∧(∃o' c' us' hi',PA q W' o' c' us' hi'∧us'.map Zz=(if(Kf line).2=true∧us.length≠10 then us.map Zz++[pnode (Kf line).1]else us.map Zz)∧SStep q (OA q o) (OA q o') W W')
theorem addNode_any(q:Nat)(W:World)(o:Option Addr)(c:Nat)(us:List LNode)(hi:Nat)(line:ByteArray)(h:PA q W o c us hi)(hs:line.size≤3000)(hT:PowTab W)(hE:NErr W)(hD:Wds W) :
  Calls prog 102 #[.pointer (some ⟨q,0,none⟩),.string line] W (AnsAdd q W o us line):=by
 have HP:=Zd (Bz line W (by omega) hT hE hD);have HF:=Zd (readR_fit (s:=line) hs);have HH:=Zd h;clear h hT hE hD hs;obtain⟨⟨⟨nm,kd,sa,sb,cp,nx⟩,y⟩,hR⟩:∃R,Kf line=R:=⟨_,rfl⟩;rw[hR]at HP HF;dsimp only at HF;have HR:=Zd hR;clear hR;go_enter func102,ntmps102;go_wp2_with fail;refine HP.o.mono ?_;rintro e w1 ⟨⟨nxo,nxc,rfl,hno,hF⟩,hb1⟩;dsimp only at hF;dsimp only;obtain⟨V,hV⟩:=nmd (w1.alloc (.cells #[.string nm,.int .i64 kd,.int .i64 sa,.int .i64 sb,.int .i64 cp,.slice nxo nx.length nxc] 27));have hbV:Below w1.1.size w1 V:=by rw[hV];exact Zk _ _
 have XN:Bx V w1.1.size [.string nm,.int .i64 kd,.int .i64 sa,.int .i64 sb,.int .i64 cp,.slice nxo nx.length nxc]:=by rw[hV];exact Bx.new [.string nm,.int .i64 kd,.int .i64 sa,.int .i64 sb,.int .i64 cp,.slice nxo nx.length nxc] _ rfl
 have hVs:w1.1.size<V.1.size:=XN.size;have hBV:=hb1.trans (hbV.mono hb1.size);have PV:=Zd (HH.o.later hBV);have FX:=Zd (hF.later hbV);have HV:=Zd hV;have HBV:=Zd hBV;have hW1:W.1.size≤w1.1.size:=hb1.size;have q0:=PV.o.box.c 0 rfl;have qz:=PV.o.box.size;have hul:us.length≤10:=PV.o.fit.1;clear hV hbV hb1 hF hno HP
 go_upto_region 2 with fail
 rw[←HV.o];clear HV
 cases y with
 |false =>
  go_wp2;refine bodyPost_ret (v:=.string ⟨#[110,111]⟩) (by simp[results,results102,go_sem]) rfl ?_;exact⟨by rw[if_neg (fun hh=>by rw[HR.o]at hh;cases hh.1)];rfl,o,c,us,hi,PV.o,by rw[if_neg (fun hh=>by rw[HR.o]at hh;cases hh.1)],SStep.of_below HBV.o (Nat.le_of_lt HH.o.box.size)⟩
 |true =>
  by_cases h10:us.length=10
  ·have hd:((us.length:Int)==10)=true:=by rw[h10];rfl
   have H10:=Zd h10;clear h10;go_wp2;refine bodyPost_ret (v:=.string ⟨#[110,111]⟩) (by simp[results,results102,go_sem]) rfl ?_;exact⟨by rw[if_neg (fun hh=>hh.2 H10.o)];rfl,o,c,us,hi,PV.o,by rw[if_neg (fun hh=>hh.2 H10.o)],SStep.of_below HBV.o (Nat.le_of_lt HH.o.box.size)⟩
  ·have hd:((us.length:Int)==10)=false:=by simp;omega
   have H10:=Zd h10;clear h10
   go_upto_region 4 with fail
   have C0:Zi (V.cell? ⟨q,0,none⟩=some (.slice o us.length c)∧V.cell? ⟨w1.1.size,0,none⟩=some (.string nm)∧V.cell? ⟨w1.1.size,1,none⟩=some (.int .i64 kd)∧V.cell? ⟨w1.1.size,2,none⟩=some (.int .i64 sa)∧V.cell? ⟨w1.1.size,3,none⟩=some (.int .i64 sb)∧V.cell? ⟨w1.1.size,4,none⟩=some (.int .i64 cp)∧V.cell? ⟨w1.1.size,5,none⟩=some (.slice nxo nx.length nxc)):=⟨q0,XN.c 0 rfl,XN.c 1 rfl,XN.c 2 rfl,XN.c 3 rfl,XN.c 4 rfl,XN.c 5 rfl⟩;clear XN;refine Qq (zl:=[10]) (S:=fun Y=>Y.cell? ⟨q,0,none⟩=some (.slice o us.length c)∧Y.cell? ⟨w1.1.size,0,none⟩=some (.string nm)∧Y.cell? ⟨w1.1.size,1,none⟩=some (.int .i64 kd)∧Y.cell? ⟨w1.1.size,2,none⟩=some (.int .i64 sa)∧Y.cell? ⟨w1.1.size,3,none⟩=some (.int .i64 sb)∧Y.cell? ⟨w1.1.size,4,none⟩=some (.int .i64 cp)∧Y.cell? ⟨w1.1.size,5,none⟩=some (.slice nxo nx.length nxc)) (by kernel_rfl) C0.o (fun hH=>?_);refine Zq 0 hH ?_;refine Zq 1 hH ?_;refine Zq 2 hH ?_;refine Zq 3 hH ?_;refine Zq 4 hH ?_;refine Zq 5 hH ?_;refine Walks.on 6 fun K hK=>?_
   go_simp;obtain⟨U,hU⟩:=nmd ((V.alloc (.cells #[.string nm,.int .i64 kd,.int .i64 sa,.int .i64 sb,.int .i64 cp,.slice nxo nx.length nxc] 27)).drew);rw[←hU];have hbU:Below V.1.size V U:=by rw[hU];exact(Zk V _).drew
   have hN:Pf.In U.1.size U (some ⟨V.1.size,0,none⟩) [((nm,kd,sa,sb,cp,(nxo,nxc,nx)):LNode)]:=by
    have hx:Bx U V.1.size [.string nm,.int .i64 kd,.int .i64 sa,.int .i64 sb,.int .i64 cp,.slice nxo nx.length nxc]:=by rw[hU];exact(Bx.new (w:=V) [.string nm,.int .i64 kd,.int .i64 sa,.int .i64 sb,.int .i64 cp,.slice nxo nx.length nxc] 27 rfl).drew
    exact hNode_one hx.size hx
   have PU:=Zd (PV.o.later hbU);have FU:=Zd (FX.o.later hbU);have C1:=C0.o;have hqV:q<V.1.size:=qz;have CU:U.cell? ⟨q,0,none⟩=some (.slice o us.length c):=(hbU.cell (p:=⟨q,0,none⟩) hqV).trans C1.1;have hBU:=HBV.o.trans (hbU.mono HBV.o.size);have hsU:V.1.size≤U.1.size:=hbU.size;refine hK.out _ _ (fun _=>⟨CU,(hbU.cell (p:=⟨w1.1.size,0,none⟩) hVs).trans C1.2.1,(hbU.cell (p:=⟨w1.1.size,1,none⟩) hVs).trans C1.2.2.1,(hbU.cell (p:=⟨w1.1.size,2,none⟩) hVs).trans C1.2.2.2.1,(hbU.cell (p:=⟨w1.1.size,3,none⟩) hVs).trans C1.2.2.2.2.1,(hbU.cell (p:=⟨w1.1.size,4,none⟩) hVs).trans C1.2.2.2.2.2.1,(hbU.cell (p:=⟨w1.1.size,5,none⟩) hVs).trans C1.2.2.2.2.2.2⟩) (fun hU0=>?_);clear hK K hU C1 hU0;have hhi0:=PU.o.hi0;have hhi1:hi≤W.1.size:=HH.o.hi1;refine Walks.on 7 fun K hK=>?_
   refine Je hNode_ok U (by rfl) (.tmp 26) (.tmp 28) (by rfl) (q+1) (.slice o us.length c) us (by rfl) (by exact PU.o.gr.2.1) (by omega) (some ⟨V.1.size,0,none⟩) [((nm,kd,sa,sb,cp,(nxo,nxc,nx)):LNode)] 1 1 (by rfl) rfl (by simp) _ hN (by simp;omega) ?_;intro v' w2 hO2 hB2 hG2 hw2;obtain⟨tq,tc,rfl,hGR⟩:=gr_app PU.o.gr (FU.o.wide (show hi≤W.1.size by omega) (by omega)) (by omega) (by omega) hO2 hG2;obtain⟨zs,hzs⟩:=nmd (us++[((nm,kd,sa,sb,cp,(nxo,nxc,nx)):LNode)]);rw[←hzs]at hGR hw2 ⊢;have hob:∀b,(Value.slice o us.length c).ownBlock=some b→q+1≤b∧b<hi:=fun b hb=>rw_block PU.o.gr.2 hb
   have hkp:∀b,b<U.1.size→(b=q∨W.1.size≤b)→w2.heap[b]? = U.heap[b]? := fun b hb hc=>hG2.block b hb fun e=>by have:=hob b e.symm;omega
   have hqU:q<U.1.size:=by omega
   have hnU:w1.1.size<U.1.size:=by omega
   have X2:Bx w2 q [.slice o us.length c,.bool false,.string ⟨#[]⟩,.pointer none,.int .i64 0]:=PU.o.box.keep hG2.size (hkp q hqU (.inl rfl));have c2:=X2.c 0 rfl;have f2:=X2.f 0 rfl;have z2:=X2.size;have HX2:=Zd X2;have HS2:Zi (w2.cell? ⟨q,0,none⟩=some (.slice o us.length c)∧w2.cell? ⟨w1.1.size,0,none⟩=some (.string nm)∧w2.cell? ⟨w1.1.size,1,none⟩=some (.int .i64 kd)∧w2.cell? ⟨w1.1.size,2,none⟩=some (.int .i64 sa)∧w2.cell? ⟨w1.1.size,3,none⟩=some (.int .i64 sb)∧w2.cell? ⟨w1.1.size,4,none⟩=some (.int .i64 cp)∧w2.cell? ⟨w1.1.size,5,none⟩=some (.slice nxo nx.length nxc)):=by
    have hk1:=hkp w1.1.size hnU (.inr hW1);have C1:=C0.o;exact⟨c2,(World.cell?_of_block (a:=⟨w1.1.size,0,none⟩) hk1).trans ((hbU.cell (p:=⟨w1.1.size,0,none⟩) hVs).trans C1.2.1),(World.cell?_of_block (a:=⟨w1.1.size,1,none⟩) hk1).trans ((hbU.cell (p:=⟨w1.1.size,1,none⟩) hVs).trans C1.2.2.1),(World.cell?_of_block (a:=⟨w1.1.size,2,none⟩) hk1).trans ((hbU.cell (p:=⟨w1.1.size,2,none⟩) hVs).trans C1.2.2.2.1),(World.cell?_of_block (a:=⟨w1.1.size,3,none⟩) hk1).trans ((hbU.cell (p:=⟨w1.1.size,3,none⟩) hVs).trans C1.2.2.2.2.1),(World.cell?_of_block (a:=⟨w1.1.size,4,none⟩) hk1).trans ((hbU.cell (p:=⟨w1.1.size,4,none⟩) hVs).trans C1.2.2.2.2.2.1),(World.cell?_of_block (a:=⟨w1.1.size,5,none⟩) hk1).trans ((hbU.cell (p:=⟨w1.1.size,5,none⟩) hVs).trans C1.2.2.2.2.2.2)⟩
   have HFIN:Zi (AnsAdd q W o us line (.returned (.string okT)) (w2.setCell ⟨q,0,none⟩ (.slice tq zs.length tc))):=by
    have hc:(Kf line).2=true∧us.length≠10:=⟨by rw[HR.o],H10.o⟩;have hfn:=HF.o rfl;have hul2:=H10.o;refine⟨by rw[if_pos hc],tq,tc,zs,w2.1.size,⟨X2.set 0 _,hGR.setOff (.inl (by dsimp only;omega)) _,⟨by rw[hzs];simp;omega,fun a ha=>?_⟩,by simp[World.setCell],by omega⟩,?_,?_⟩
    ·rw[hzs]at ha
     rcases List.mem_append.1 ha with ha|ha
     ·exact PV.o.fit.2 a ha
     ·rw[List.mem_singleton.1 ha];exact hfn
    ·rw[if_pos hc,hzs,List.map_append,HR.o];rfl
    ·refine⟨((hBU.mono (Nat.le_of_lt HH.o.box.size)).trans (hB2.mono (by omega))).setCell (p:=⟨q,0,none⟩) (Nat.le_refl _) _,fun b hb hn=>?_,fun b hb=>?_⟩
     ·have h1:b≠q:=fun e=>hn (.inl e)
      have h2:(w2.setCell ⟨q,0,none⟩ (.slice tq zs.length tc)).heap[b]? = w2.heap[b]? := Below.heap_setCell _ _ _ b (by dsimp only;omega);have h3:w2.heap[b]? = U.heap[b]? := hG2.block b (by have:=hBU.size;omega) fun e=>hn (.inr (by
       cases o with
       |none=>simp[Value.ownBlock]at e
       |some a=>exact⟨a,rfl,by simpa[Value.ownBlock]using e.symm⟩))
      exact h2.trans (h3.trans (hBU.block b hb))
     ·rcases hb with rfl|⟨a,rfl,rfl⟩
      ·exact .inl (.inl rfl)
      ·rcases hw2 a.block (by simp[Value.ownBlock])with h|h
       ·left;right
        cases o with
        |none=>simp[Value.ownBlock]at h
        |some a2=>exact⟨a2,rfl,by simpa[Value.ownBlock]using h⟩
       ·exact .inr (by have:=hBU.size;omega)
   clear hzs;refine hK.out _ _ (fun _=>HS2.o) (fun _=>?_);clear hK K hO2 hB2 hG2 hw2 hGR hob hkp X2 C0;refine Walks.on 8 fun K hK=>?_
   go_simp;refine hK.out _ _ (fun _=>HS2.o) (fun _=>?_);clear hK K;refine Walks.on 9 fun K hK=>?_
   go_simp;refine hK.out _ _ (fun _=>HS2.o) (fun _=>?_);clear hK K;refine Walks.on 10 fun K hK=>?_
   go_simp;refine hK.out _ _ (fun h=>absurd h (by decide)) (fun _=>?_);clear hK K;refine Walks.done (by kernel_rfl) ?_ _;go_wp2;refine bodyPost_ret (v:=.string ⟨#[111,107]⟩) (by simp[results,results102,go_sem]) rfl ?_;exact HFIN.o
section
open Go.RowKit Go.Extern.Stop Go.Stop Go.Extern
theorem Tryz.isTypeOf(v:Value)(w:World):(Extern.ReflectliteType.typeOf #[.iface 227 v]).run prog w=.ok (.iface 279 (.agg #[.pointer (some ⟨15,227,none⟩)])) w:=by kernel_rfl
theorem Tryz.hasCmp:(Extern.find Tryz.f317).isSome=true:=by kernel_rfl
noncomputable def cmpX:Array Value→Sem Value:=(Extern.find Tryz.f317).get Tryz.hasCmp
theorem Rn:Extern.find Tryz.f317=some cmpX:=(Option.some_get _).symm
theorem Tryz.isComparable(w:World):(cmpX #[.agg #[.pointer (some ⟨15,227,none⟩)]]).run prog w=.ok (.bool true) w:=by kernel_rfl
theorem Tryz.isMethodComparable(v:Value)(w:World):(Go.method 446 279 v "Comparable").run prog w=.ok (317,v) w:=by kernel_rfl
theorem Tryz.isComp:(prog.info? 227).map (·.comparable)=some true:=by kernel_rfl
theorem Tryz.isSize:(prog.info? 229).map (·.size)=some 1:=by kernel_rfl
theorem Tryz.noIsE(v:Value)(xT:TypeId)(w:World):(Instr.typeAssert (.iface 227 v) xT 281 true).run prog w=.ok (.tuple #[.nilIface,.bool false]) w:=run_typeAssert_lacksB underlying281 (by kernel_rfl) (by kernel_rfl) v xT w
theorem Tryz.noUnwrapE(v:Value)(xT:TypeId)(w:World):(Instr.typeAssert (.iface 227 v) xT 284 true).run prog w=.ok (.tuple #[.nilIface,.bool false]) w:=run_typeAssert_lacksB underlying284 (by kernel_rfl) (by kernel_rfl) v xT w
theorem Tryz.noUnwrapsE(v:Value)(xT:TypeId)(w:World):(Instr.typeAssert (.iface 227 v) xT 286 true).run prog w=.ok (.tuple #[.nilIface,.bool false]) w:=run_typeAssert_lacksB underlying286 (by kernel_rfl) (by kernel_rfl) v xT w
theorem Tryz.noIsW(v:Value)(xT:TypeId)(w:World):(Instr.typeAssert (.iface 241 v) xT 281 true).run prog w=.ok (.tuple #[.nilIface,.bool false]) w:=run_typeAssert_lacksB underlying281 (by kernel_rfl) (by kernel_rfl) v xT w
theorem Tryz.hasUnwrapW(v:Value)(xT:TypeId)(w:World):(Instr.typeAssert (.iface 241 v) xT 284 true).run prog w=.ok (.tuple #[.iface 241 v,.bool true]) w:=run_typeAssert_hasB underlying284 (by kernel_rfl) v xT w
theorem Tryz.methodUnwrap(v:Value)(w:World):(Go.method 446 241 v "Unwrap").run prog w=.ok (313,v) w:=by kernel_rfl
theorem unwrap_is(n:Int)(a:Addr)(w:World):Calls prog 313 #[.agg #[.int .i64 n,errV a]] w fun e w'=>e=.returned (errV a)∧w'=w.alloc (.cells #[.int .i64 n,errV a] 241):=by
 go_enter func313,ntmps313;go_wp2;go_ret;exact⟨rfl,rfl⟩
theorem is_same(a:Addr)(w:World) :
  Calls prog 203 #[errV a,errV a] w fun e w'=>e=.returned (.bool true)∧Below w.1.size w w':=by
 obtain⟨i,hi,hcmp⟩:=Option.map_eq_some_iff.1 Tryz.isComp;obtain⟨j,hj,hjs⟩:=Option.map_eq_some_iff.1 Tryz.isSize;have h8 := @run_callFunc_extern prog 223 _ Extern.ReflectliteType.typeOf func223 (by kernel_rfl) (by kernel_rfl) (by kernel_rfl) (by kernel_rfl);have h32 := @run_callFunc_extern prog 317 _ cmpX func317 (by kernel_rfl) (by kernel_rfl) (by kernel_rfl) Rn;have tT:=Tryz.isTypeOf;have cT:=Tryz.isComparable;have mR:=Tryz.isMethodComparable;have heq:=run_eql_iface_ptr_same (P:=prog) w a underlying80 underlying227 hi hcmp hj;go_enter func203,ntmps203;go_wp2;refine wp_loop_rounds 1 ?_;rw[rounds_succ];go_wp2;go_ret;exact⟨rfl,Below.refl _ _⟩
theorem is_other(a b:Addr)(ca cb:Array Value)(ta tb:TypeId)(w:World)(hne:a≠b)(ha:w.heap[a.block]? = some (.cells ca ta (0,0)))(hb:w.heap[b.block]? = some (.cells cb tb (0,0))) :
  Calls prog 203 #[errV a,errV b] w fun e w'=>e=.returned (.bool false)∧Below w.1.size w w':=by
 obtain⟨i,hi,hcmp⟩:=Option.map_eq_some_iff.1 Tryz.isComp;obtain⟨j,hj,hjs⟩:=Option.map_eq_some_iff.1 Tryz.isSize;have h8 := @run_callFunc_extern prog 223 _ Extern.ReflectliteType.typeOf func223 (by kernel_rfl) (by kernel_rfl) (by kernel_rfl) (by kernel_rfl);have h32 := @run_callFunc_extern prog 317 _ cmpX func317 (by kernel_rfl) (by kernel_rfl) (by kernel_rfl) Rn;have tT:=Tryz.isTypeOf;have cT:=Tryz.isComparable;have mR:=Tryz.isMethodComparable;have nE:=Tryz.noIsE;have uE:=Tryz.noUnwrapE;have vE:=Tryz.noUnwrapsE;have nW:=Tryz.noIsW;have uW:=Tryz.hasUnwrapW;have mU:=Tryz.methodUnwrap;have heq:=run_eql_iface_ptr_other (P:=prog) w underlying80 underlying227 hi hcmp hj (by rw[hjs];decide) hne ha hb;go_enter func203,ntmps203;go_wp2;refine wp_loop_rounds 1 ?_;rw[rounds_succ];go_wp2;go_ret;exact⟨rfl,Below.refl _ _⟩
theorem is_at_same(n:Int)(b:Addr)(w:World) :
  Calls prog 203 #[.iface 241 (.agg #[.int .i64 n,errV b]),errV b] w fun e w'=>e=.returned (.bool true)∧Below w.1.size w w':=by
 obtain⟨i,hi,hcmp⟩:=Option.map_eq_some_iff.1 Tryz.isComp;obtain⟨j,hj,hjs⟩:=Option.map_eq_some_iff.1 Tryz.isSize;have h8 := @run_callFunc_extern prog 223 _ Extern.ReflectliteType.typeOf func223 (by kernel_rfl) (by kernel_rfl) (by kernel_rfl) (by kernel_rfl);have h32 := @run_callFunc_extern prog 317 _ cmpX func317 (by kernel_rfl) (by kernel_rfl) (by kernel_rfl) Rn;have tT:=Tryz.isTypeOf;have cT:=Tryz.isComparable;have mR:=Tryz.isMethodComparable;have nE:=Tryz.noIsE;have uE:=Tryz.noUnwrapE;have vE:=Tryz.noUnwrapsE;have nW:=Tryz.noIsW;have uW:=Tryz.hasUnwrapW;have mU:=Tryz.methodUnwrap;have heq:=run_eql_iface_ptr_same (P:=prog) (w.alloc (.cells #[.int .i64 n,errV b] 241)) b underlying80 underlying227 hi hcmp hj;have hty:=run_eql_iface_types (P:=prog) 241 227 (.agg #[.int .i64 n,errV b]) (.pointer (some b)) underlying80 (by decide) w;go_enter func203,ntmps203;go_wp2;refine wp_loop_rounds 2 ?_;rw[rounds_succ];go_wp2_with (go_at_call 313;refine(unwrap_is n b _).mono ?_;rintro e w' ⟨rfl,rfl⟩);rw[rounds_succ];go_wp2;go_ret;exact⟨rfl,Zk _ _⟩
theorem is_at_other(n:Int)(b a:Addr)(ca cb:Array Value)(ta tb:TypeId)(w:World)(hne:a≠b)(ha:w.heap[a.block]? = some (.cells ca ta (0,0)))(hb:w.heap[b.block]? = some (.cells cb tb (0,0))) :
  Calls prog 203 #[.iface 241 (.agg #[.int .i64 n,errV a]),errV b] w fun e w'=>e=.returned (.bool false)∧Below w.1.size w w':=by
 obtain⟨i,hi,hcmp⟩:=Option.map_eq_some_iff.1 Tryz.isComp;obtain⟨j,hj,hjs⟩:=Option.map_eq_some_iff.1 Tryz.isSize;have h8 := @run_callFunc_extern prog 223 _ Extern.ReflectliteType.typeOf func223 (by kernel_rfl) (by kernel_rfl) (by kernel_rfl) (by kernel_rfl);have h32 := @run_callFunc_extern prog 317 _ cmpX func317 (by kernel_rfl) (by kernel_rfl) (by kernel_rfl) Rn;have tT:=Tryz.isTypeOf;have cT:=Tryz.isComparable;have mR:=Tryz.isMethodComparable;have nE:=Tryz.noIsE;have uE:=Tryz.noUnwrapE;have vE:=Tryz.noUnwrapsE;have nW:=Tryz.noIsW;have uW:=Tryz.hasUnwrapW;have mU:=Tryz.methodUnwrap;have hlt:∀(x:Addr)(c:Array Value)(t:TypeId),w.heap[x.block]? = some (.cells c t (0,0))→(w.alloc (.cells #[.int .i64 n,errV a] 241)).heap[x.block]? = some (.cells c t (0,0)):=fun x c t h=>((Zk w _).block x.block (Array.getElem?_eq_some_iff.1 h).1).trans h
 have heq:=run_eql_iface_ptr_other (P:=prog) (w.alloc (.cells #[.int .i64 n,errV a] 241)) underlying80 underlying227 hi hcmp hj (by rw[hjs];decide) hne (hlt a ca ta ha) (hlt b cb tb hb);have hty:=run_eql_iface_types (P:=prog) 241 227 (.agg #[.int .i64 n,errV a]) (.pointer (some b)) underlying80 (by decide) w;clear hlt;go_enter func203,ntmps203;go_wp2;refine wp_loop_rounds 2 ?_;rw[rounds_succ];go_wp2_with (go_at_call 313;refine(unwrap_is n a _).mono ?_;rintro e w' ⟨rfl,rfl⟩);rw[rounds_succ];go_wp2;go_ret;exact⟨rfl,Zk _ _⟩
end
end Go.Proofs.YtdacedbfnlkghaaGreatDoor