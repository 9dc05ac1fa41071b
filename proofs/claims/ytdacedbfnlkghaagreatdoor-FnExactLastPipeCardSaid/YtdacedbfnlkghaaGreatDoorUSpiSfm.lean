/- The specification's moves: ticks, drains, aborts. The specification plays moves on a new pipe. Running out: the specification. What a command is: the specification. No conditions but those written. -/
import Derived.Test.YtdacedbfnlkghaaGreatDoorUSpgSph
namespace Go.Proofs.YtdacedbfnlkghaaGreatDoor
set_option maxHeartbeats 8000000
set_option maxRecDepth 100000
open Go.RowKit Go.Proofs.Tryz
theorem moveS4(lo:Nat)(W:World)(p bb gb goff gc:Nat)(ts:List LNode)(xs:List Value)(ev fv uv:Value)(s:PP)(m2 m3:Int)(h:FlowS lo W p bb (.slice (some ⟨gb,goff,none⟩) ts.length gc) xs ev fv uv s)(hz:DIn Ja lo W (some ⟨gb,goff,none⟩) ts)(hG:GoodE (ts.map Zz))(_hI:InvS (ts.map Zz) s)(hB:RawP ts.length s) :
  Calls prog 140 #[.pointer (some ⟨p,0,none⟩),.agg #[.int .i64 4,.int .i64 m2,.int .i64 m3]] W fun e W'=>e=.returned (.int .i64 (Xn s m3).1)∧FStepS lo p (.slice (some ⟨gb,goff,none⟩) ts.length gc) (FO p bb xs ev fv uv) W W' (Xn s m3).2:=by
 have hb0:=Zk W (.cells #[.int .i64 4,.int .i64 m2,.int .i64 m3] 127);have hlo:lo≤W.1.size:=h.lo_le;have F0:=h.later hb0;have hp:=h.box.size;have hbb:=h.hnd.size;have hN:=hB.len;have hmany:s.bx.length≤10:=by have:=hG.edg.many;rw[List.length_map]at this;omega
 have h1:=hB.tot;have h2:=hB.em;have h3:=hB.fu;have h4:=hB.it1;have h5:=hB.ti0;have h6:=hB.ti1;obtain⟨V,hV⟩:=nmd (W.alloc (.cells #[.int .i64 4,.int .i64 m2,.int .i64 m3] 127));rw[←hV]at hb0 F0;have HF0:=Zd F0;have HB0:=Zd hb0;have HV:=Zd hV;have M0:=Bx.new (w:=W) [.int .i64 4,.int .i64 m2,.int .i64 m3] 127 rfl;rw[←hV]at M0;have HM0:=Zd M0;obtain⟨b0,b1,b2⟩:=M0.y3;have hz0:=hz.below Zf (hb0.mono hlo);have HNN:=Zd hN;clear hV hb0 M0 F0 hN;have c1:=HF0.o.box.c 1 rfl;have f1:=HF0.o.box.f 1 rfl
 rcases hb:(decide (0≤m3) && decide (m3≤1000))with _|_
 case false =>
  have HR:Zi (Xn s m3=(2,s)):=by
   rw[Zi,Xn,if_pos];rw[Bool.and_eq_false_iff,decide_eq_false_iff_not,decide_eq_false_iff_not]at hb
   omega
  have HLI:=Zd (Zr m3 0 1000 V false hb);clear hb;go_enter func140,ntmps140;go_wp2_with fail;rw[←HV.o];refine HLI.o.mono ?_;rintro e w2 ⟨rfl,hw2⟩;rw[hw2];clear hw2 w2
  go_wp2;go_ret;rw[HR.o];exact⟨rfl,FStepS.same h HB0.o⟩
 have HLI:=Zd (Zr m3 0 1000 V true hb);have h30:0≤m3∧m3≤1000:=by simpa using hb
 have hw:IntKind.i64.wrap (s.ti+m3)=s.ti+m3:=by rw[IntKind.wrap_i64];omega
 clear hb
 by_cases hgt:1000000<s.ti+m3
 ·have hd:decide (1000000<s.ti+m3)=true:=by simpa using hgt
  have HR:Zi (Xn s m3=(4,s)):=by rw[Zi,Xn,if_neg (by omega),if_pos hgt]
  go_enter func140,ntmps140;go_wp2_with fail;rw[←HV.o];refine HLI.o.mono ?_;rintro e w2 ⟨rfl,hw2⟩;rw[hw2];clear hw2 w2
  go_wp2_with fail
  go_quiet (fail)
  go_wp2;go_ret;rw[HR.o];exact⟨rfl,FStepS.same h (Zc HB0.o _)⟩
 ·have hd:decide (1000000<s.ti+m3)=false:=by simpa using hgt
  have HR:Zi (Xn s m3=(0,{ s with ti:=s.ti+m3 })):=by rw[Zi,Xn,if_neg (by omega),if_neg hgt]
  go_enter func140,ntmps140;go_wp2_with fail;rw[←HV.o];refine HLI.o.mono ?_;rintro e w2 ⟨rfl,hw2⟩;rw[hw2];clear hw2 w2
  go_wp2_with fail
  go_quiet (fail)
  go_wp2_with fail
  generalize hV7:V.drewN _=V7
  have B7:Below V.1.size V V7:=by rw[←hV7];exact Zc (Below.refl _ _) _
  have HB7:=Zd (HB0.o.trans (B7.mono HB0.o.size));have HF7:=Zd (HF0.o.later B7);have M7:=HM0.o.later B7;have SU:=And.intro (HF7.o.box.c 1 rfl) (M7.c 2 rfl);have f17:=HF7.o.box.f 1 rfl;have HX7:=Zd (HF7.o.putTi (s.ti+m3));clear hV7 B7 M7 c1 f1 b0 b1 b2 hd;refine Qq (zl:=[11]) (S:=fun Y=>Y.cell? ⟨p,1,none⟩=some (.int .i64 s.ti)∧Y.cell? ⟨W.1.size,2,none⟩=some (.int .i64 m3)) (by kernel_rfl) SU (fun hH=>?_);refine Zq 0 hH ?_;refine Zq 1 hH ?_;refine Zq 2 hH ?_;refine Zq 3 hH ?_;refine Zq 4 hH ?_;refine Zq 5 hH ?_;refine Zq 6 hH ?_;refine Zq 7 hH ?_;refine Walks.on 8 fun K hK=>?_
  go_simp;refine hK.out _ _ (fun _=>SU) (fun _=>?_);clear hK K;refine Walks.on 9 fun K hK=>?_
  go_simp;refine hK.out _ _ (fun _=>SU) (fun _=>?_);clear hK K;refine Zq 10 SU ?_;refine Walks.on 11 fun K hK=>?_
  go_simp;refine hK.out _ _ (fun h=>absurd h (by decide)) (fun _=>?_);refine Walks.done (by kernel_rfl) ?_ _;clear hK K;go_wp2;go_ret;rw[HR.o];exact⟨rfl,FStepS.start h HB7.o (HX7.o.later (Below.refl _ _).drew).step⟩
theorem moveS5(lo:Nat)(W:World)(p bb gb goff gc:Nat)(ts:List LNode)(xs:List Value)(ev fv uv:Value)(s:PP)(m2 m3:Int)(h:FlowS lo W p bb (.slice (some ⟨gb,goff,none⟩) ts.length gc) xs ev fv uv s)(hz:DIn Ja lo W (some ⟨gb,goff,none⟩) ts)(hG:GoodE (ts.map Zz))(_hI:InvS (ts.map Zz) s)(hB:RawP ts.length s) :
  Calls prog 140 #[.pointer (some ⟨p,0,none⟩),.agg #[.int .i64 5,.int .i64 m2,.int .i64 m3]] W fun e W'=>e=.returned (.int .i64 (Kr s).1)∧FStepS lo p (.slice (some ⟨gb,goff,none⟩) ts.length gc) (FO p bb xs ev fv uv) W W' (Kr s).2:=by
 have hb0:=Zk W (.cells #[.int .i64 5,.int .i64 m2,.int .i64 m3] 127);have hlo:lo≤W.1.size:=h.lo_le;have F0:=h.later hb0;have hp:=h.box.size;have hbb:=h.hnd.size;have hN:=hB.len;have hmany:s.bx.length≤10:=by have:=hG.edg.many;rw[List.length_map]at this;omega
 have h1:=hB.tot;have h2:=hB.em;have h3:=hB.fu;have h4:=hB.it1;have h5:=hB.ti0;have h6:=hB.ti1;obtain⟨V,hV⟩:=nmd (W.alloc (.cells #[.int .i64 5,.int .i64 m2,.int .i64 m3] 127));rw[←hV]at hb0 F0;have HF0:=Zd F0;have HB0:=Zd hb0;have HV:=Zd hV;have M0:=Bx.new (w:=W) [.int .i64 5,.int .i64 m2,.int .i64 m3] 127 rfl;rw[←hV]at M0;have HM0:=Zd M0;obtain⟨b0,b1,b2⟩:=M0.y3;have hz0:=hz.below Zf (hb0.mono hlo);have HNN:=Zd hN;clear hV hb0 M0 F0 hN;have c3:=h.box.c 3 rfl;have f3:=h.box.f 3 rfl
 cases hc:s.cl
 ·have HR:Zi (Kr s=(0,{ s with cl:=true })):=by rw[Zi,Kr,hc];rfl
  rw[hc]at c3;go_enter func140,ntmps140;go_wp2;go_ret;rw[HR.o];exact⟨rfl,((h.putCl true).later (Zk _ _)).step⟩
 ·have HR:Zi (Kr s=(3,s)):=by rw[Zi,Kr,hc];rfl
  rw[hc]at c3;go_enter func140,ntmps140;go_wp2;go_ret;rw[HR.o];exact⟨rfl,FStepS.same h (Zk _ _)⟩
theorem moveS6(lo:Nat)(W:World)(p bb gb goff gc:Nat)(ts:List LNode)(xs:List Value)(ev fv uv:Value)(s:PP)(m2 m3:Int)(h:FlowS lo W p bb (.slice (some ⟨gb,goff,none⟩) ts.length gc) xs ev fv uv s)(hz:DIn Ja lo W (some ⟨gb,goff,none⟩) ts)(hG:GoodE (ts.map Zz))(_hI:InvS (ts.map Zz) s)(hB:RawP ts.length s) :
  Calls prog 140 #[.pointer (some ⟨p,0,none⟩),.agg #[.int .i64 6,.int .i64 m2,.int .i64 m3]] W fun e W'=>e=.returned (.int .i64 (Kz s).1)∧FStepS lo p (.slice (some ⟨gb,goff,none⟩) ts.length gc) (FO p bb xs ev fv uv) W W' (Kz s).2:=by
 have hb0:=Zk W (.cells #[.int .i64 6,.int .i64 m2,.int .i64 m3] 127);have hlo:lo≤W.1.size:=h.lo_le;have F0:=h.later hb0;have hp:=h.box.size;have hbb:=h.hnd.size;have hN:=hB.len;have hmany:s.bx.length≤10:=by have:=hG.edg.many;rw[List.length_map]at this;omega
 have h1:=hB.tot;have h2:=hB.em;have h3:=hB.fu;have h4:=hB.it1;have h5:=hB.ti0;have h6:=hB.ti1;obtain⟨V,hV⟩:=nmd (W.alloc (.cells #[.int .i64 6,.int .i64 m2,.int .i64 m3] 127));rw[←hV]at hb0 F0;have HF0:=Zd F0;have HB0:=Zd hb0;have HV:=Zd hV;have M0:=Bx.new (w:=W) [.int .i64 6,.int .i64 m2,.int .i64 m3] 127 rfl;rw[←hV]at M0;have HM0:=Zd M0;obtain⟨b0,b1,b2⟩:=M0.y3;have hz0:=hz.below Zf (hb0.mono hlo);have HNN:=Zd hN;clear hV hb0 M0 F0 hN;have c3:=h.box.c 3 rfl;have HA:=Zd (Na lo V p bb _ xs ev fv uv s HF0.o hmany (by omega))
 cases hc:s.cl
 ·have HR:Zi (Kz s=(0,Wh s)):=by rw[Zi,Kz,if_neg (by simp[hc])]
  rw[hc]at c3;go_enter func140,ntmps140;go_wp2_with fail;rw[←HV.o];refine HA.o.mono ?_;rintro e w2 ⟨⟨v2,rfl⟩,hs⟩;have HS:=Zd (FStepS.start h HB0.o hs);clear hs;go_wp2;go_ret;rw[HR.o];exact⟨rfl,HS.o⟩
 ·rw[hc]at c3;have HL:=Zd (liveM_any lo V p bb _ xs ev fv uv s HF0.o hmany (by omega))
  by_cases h00:Zs s.bx=0
  ·have HR:Zi (Kz s=(3,s)):=by rw[Zi,Kz,if_pos ⟨hc,h00⟩]
   rw[h00]at HL;clear h00;go_enter func140,ntmps140;go_wp2_with fail;rw[←HV.o];refine HL.o.mono ?_;rintro e w2 ⟨rfl,hb2⟩;have HB2:=Zd (HB0.o.trans (hb2.mono HB0.o.size));clear hb2;go_wp2;go_ret;rw[HR.o];exact⟨rfl,FStepS.same h HB2.o⟩
  ·have HR:Zi (Kz s=(0,Wh s)):=by rw[Zi,Kz,if_neg (fun hh=>h00 hh.2)]
   have hne:((Zs s.bx:Int)==0)=false:=by simpa using h00
   go_enter func140,ntmps140;go_wp2_with fail;rw[←HV.o];refine HL.o.mono ?_;rintro e w2 ⟨rfl,hb2⟩;have HB2:=Zd (HB0.o.trans (hb2.mono HB0.o.size));have HA2:=Zd (Na lo w2 p bb _ xs ev fv uv s (h.later HB2.o) hmany (by omega));clear hb2;go_wp2_with fail;refine HA2.o.mono ?_;rintro e w3 ⟨⟨v3,rfl⟩,hs⟩;have HS:=Zd (FStepS.start h HB2.o hs);clear hs;go_wp2;go_ret;rw[HR.o];exact⟨rfl,HS.o⟩
theorem moveS0(m1 m2 m3:Int)(k1:m1≠1)(k2:m1≠2)(k3:m1≠3)(k4:m1≠4)(k5:m1≠5)(k6:m1≠6)(W:World)(p:Nat) :
  Calls prog 140 #[.pointer (some ⟨p,0,none⟩),.agg #[.int .i64 m1,.int .i64 m2,.int .i64 m3]] W fun e w'=>e=.returned (.int .i64 1)∧Below W.1.size W w':=by
 have j1:(m1==1)=false:=by simpa using k1
 have j2:(m1==2)=false:=by simpa using k2
 have j3:(m1==3)=false:=by simpa using k3
 have j4:(m1==4)=false:=by simpa using k4
 have j5:(m1==5)=false:=by simpa using k5
 have j6:(m1==6)=false:=by simpa using k6
 clear k1 k2 k3 k4 k5 k6;have hb0:=Zk W (.cells #[.int .i64 m1,.int .i64 m2,.int .i64 m3] 127);have M0:=Bx.new (w:=W) [.int .i64 m1,.int .i64 m2,.int .i64 m3] 127 rfl;have b0:=M0.c 0 rfl;go_enter func140,ntmps140;go_wp2;go_ret;exact⟨rfl,hb0⟩
theorem moveS_any(lo:Nat)(W:World)(p bb gb goff gc:Nat)(ts:List LNode)(xs:List Value)(ev fv uv:Value)(s:PP)(m1 m2 m3:Int)(h:FlowS lo W p bb (.slice (some ⟨gb,goff,none⟩) ts.length gc) xs ev fv uv s)(hz:DIn Ja lo W (some ⟨gb,goff,none⟩) ts)(hG:GoodE (ts.map Zz))(hI:InvS (ts.map Zz) s)(hB:RawP ts.length s)(hm:m1≤9223372036854775807) :
  Calls prog 140 #[.pointer (some ⟨p,0,none⟩),.agg #[.int .i64 m1,.int .i64 m2,.int .i64 m3]] W fun e W'=>e=.returned (.int .i64 (doR (ts.map Zz) (Ke (ts.map Zz) ts.length) s m1 m2 m3).1)∧FStepS lo p (.slice (some ⟨gb,goff,none⟩) ts.length gc) (FO p bb xs ev fv uv) W W' (doR (ts.map Zz) (Ke (ts.map Zz) ts.length) s m1 m2 m3).2:=by
 by_cases k1:m1=1
 ·subst k1;rw[show doR (ts.map Zz) (Ke (ts.map Zz) ts.length) s 1 m2 m3=Qp (ts.map Zz) (Ke (ts.map Zz) ts.length) s m2 m3 from by simp[doR]];exact moveS1 lo W p bb gb goff gc ts xs ev fv uv s m2 m3 h hz hG hI hB
 by_cases k2:m1=2
 ·subst k2;rw[show doR (ts.map Zz) (Ke (ts.map Zz) ts.length) s 2 m2 m3=Qk (ts.map Zz) s m2 from by simp[doR]];exact moveS2 lo W p bb gb goff gc ts xs ev fv uv s m2 m3 h hz hG hI hB
 by_cases k3:m1=3
 ·subst k3;rw[show doR (ts.map Zz) (Ke (ts.map Zz) ts.length) s 3 m2 m3=Jn s m2 from by simp[doR]];exact moveS3 lo W p bb gb goff gc ts xs ev fv uv s m2 m3 h hz hG hI hB
 by_cases k4:m1=4
 ·subst k4;rw[show doR (ts.map Zz) (Ke (ts.map Zz) ts.length) s 4 m2 m3=Xn s m3 from by simp[doR]];exact moveS4 lo W p bb gb goff gc ts xs ev fv uv s m2 m3 h hz hG hI hB
 by_cases k5:m1=5
 ·subst k5;rw[show doR (ts.map Zz) (Ke (ts.map Zz) ts.length) s 5 m2 m3=Kr s from by simp[doR]];exact moveS5 lo W p bb gb goff gc ts xs ev fv uv s m2 m3 h hz hG hI hB
 by_cases k6:m1=6
 ·subst k6;rw[show doR (ts.map Zz) (Ke (ts.map Zz) ts.length) s 6 m2 m3=Kz s from by simp[doR]];exact moveS6 lo W p bb gb goff gc ts xs ev fv uv s m2 m3 h hz hG hI hB
 have hR:doR (ts.map Zz) (Ke (ts.map Zz) ts.length) s m1 m2 m3=(1,s):=by simp[doR,k1,k2,k3,k4,k5,k6]
 rw[hR];exact(moveS0 m1 m2 m3 k1 k2 k3 k4 k5 k6 W p).mono fun e w' hh=>⟨hh.1,FStepS.same h hh.2⟩
theorem flowS_new{lo n bb:Nat}{W:World}{xs:List Value}{gv:Value}(hh:HandsT bb W xs (List.replicate n []))(hx:∀j,j<n→∀b,(el xs j).ownBlock≠some b)(hlo:lo≤bb)(T:TypeId) :
  FlowS lo (W.alloc (.cells #[gv,.int .i64 0,.int .i64 0,.bool false,.slice (some ⟨bb,0,none⟩) n n,.slice none 0 0,.slice none 0 0,.slice none 0 0] T)) W.1.size bb gv xs (.slice none 0 0) (.slice none 0 0) (.slice none 0 0) (pp0 n):=by
 have hs:=hh.size;refine⟨?_,hh.later (Zk _ _),Kind.Own.nil _ _ _,Kind.Own.nil _ _ _,Kind.Own.nil _ _ _,by omega,hlo,by omega,fun j hj=>hx j (by simpa[pp0]using hj) _,by simp[Value.ownBlock],by simp[Value.ownBlock],by simp[Value.ownBlock]⟩;have:=Bx.new (w:=W) [gv,.int .i64 0,.int .i64 0,.bool false,.slice (some ⟨bb,0,none⟩) n n,.slice none 0 0,.slice none 0 0,.slice none 0 0] T rfl
 simpa[pp0]using this
theorem Cw(ao:Option Addr)(cap:Nat)(ts:List LNode)(w:World)(hC:Roomy ts cap)(hz:DIn Ja w.1.size w ao ts) :
  Calls prog 138 #[.slice ao ts.length cap] w fun e w'=>e=.returned (.bool (Kv (ts.map Zz)))∧Below w.1.size w w':=by
 have hcon:=Up ao cap ts w hC hz;have HZ:=Zd hz;clear hz hC
 by_cases h0:Qa (ts.map Zz)=0
 ·obtain⟨hm,hbk,hor⟩:=Jw h0;have HED:=Zd (Nv (by omega) (hbk 4 (by omega)));have HOR:=Zd hor;have HPB:Zi (Kv (ts.map Zz)=decide (Ue (ts.map Zz)≤400)):=by rw[Zi,Kv,decide_eq_true h0,Bool.true_and]
  rw[h0]at hcon;have HWI:Zi (∀W',Below w.1.size w W'→Calls prog 176 #[.slice ao ts.length cap] W' fun e w'=>e=.returned (.int .i64 (Ue (ts.map Zz)))∧Below W'.1.size W' w'):=fun W' hW=>Gb ao cap ts W' HED.o HOR.o (HZ.o.later Zf hW)
  clear h0 hm hbk hor
  generalize Ue (ts.map Zz)=wd at HPB HWI
  go_enter func138,ntmps138;go_wp2_with fail;refine hcon.mono ?_;rintro e w1 ⟨rfl,hb1⟩;have HB1:=Zd hb1;clear hb1 hcon;go_wp2_with fail;refine(HWI.o w1 HB1.o).mono ?_;rintro e w2 ⟨rfl,hb2⟩;have HB2:=Zd (HB1.o.trans (hb2.mono HB1.o.size));clear hb2;go_wp2;go_ret;rw[HPB.o];exact⟨rfl,HB2.o⟩
 ·have HPB:Zi (Kv (ts.map Zz)=false):=by rw[Zi,Kv,decide_eq_false h0];rfl
  have hne:(((Qa (ts.map Zz):Nat):Int)==0)=false:=by simpa using h0
  clear h0;go_enter func138,ntmps138;go_wp2_with fail;refine hcon.mono ?_
  generalize Qa (ts.map Zz)=cg at hne ⊢
  rintro e w1 ⟨rfl,hb1⟩;have hB1:Below w.1.size w w1:=hb1;clear hb1;go_wp2;go_ret;rw[HPB.o];exact⟨rfl,hB1⟩
def AnsPlS(ao:Option Addr)(cap:Nat)(ts:List LNode)(ms:List (Int×Int×Int))(w:World)(e:Ending)(w':World):Prop :=
  (if Kv (ts.map Zz) = true ∧ ms.length ≤ 300 then ∃ lo p bb xs ev fv uv v, e = .returned (.tuple #[.pointer (some ⟨p, 0, none⟩), v, .bool true]) ∧ w.1.size ≤ lo ∧
      FlowS lo w' p bb (.slice ao ts.length cap) xs ev fv uv (Pu (ts.map Zz) (Ke (ts.map Zz) ts.length) ms (pp0 ts.length)).2∧kI.Own lo w' v (Pu (ts.map Zz) (Ke (ts.map Zz) ts.length) ms (pp0 ts.length)).1∧∀b,v.ownBlock=some b→¬FO p bb xs ev fv uv b
   else∃q,e=.returned (.tuple #[.pointer (some ⟨q,0,none⟩),.slice none 0 0,.bool false]))∧Below w.1.size w w'
theorem Pc (ao : Option Addr) (cap : Nat) (ts : List LNode) (mo : Option Addr) (mc : Nat) (ms : List (Int × Int × Int)) (w : World) (hC : Roomy ts cap) (hz : DIn Ja w.1.size w ao ts) (hM : kMv.In w.1.size w mo ms) (h64 : ∀ k, k < ms.length → (el ms k).1 ≤ 9223372036854775807) :
    Calls prog 139 #[.slice ao ts.length cap,.slice mo ms.length mc] w (AnsPlS ao cap ts ms w):=by
  have HF:=Zd (Cw ao cap ts w hC hz)
  have HZ:=Zd hz
  have HM:=Zd hM
  have H64:=Zd h64
  clear hC hM h64
  by_cases hok:Kv (ts.map Zz)=true
  · rw[hok]at HF
    by_cases hl:ms.length≤300
    · have hd:decide ((300:Int)<(ms.length:Int))=false:=by simp;omega
      have h0:Qa (ts.map Zz)=0:=by simp[Kv]at hok;exact hok.1
      have HGE:=Zd (Nk h0)
      obtain⟨hm,hbk,hor⟩:=Jw h0
      have h1:0<ts.length:=by rw[Zb]at hm;omega
      have h10:ts.length≤10:=by rw[Zb]at hm;omega
      obtain⟨gb,goff,rfl,hgb,_⟩:=Qw hz.1 h1
      obtain⟨i0,hi,hz0,hz1,hz2⟩:=info_parts Tryz.infoTok
      clear hz h0 hm hbk hor
      go_enter func139,ntmps139
      go_wp2_with fail
      refine HF.o.mono ?_
      rintro e w1 ⟨rfl,hb1⟩
      have HB1:=Zd hb1
      clear hb1 HF
      go_wp2_with (at_make;refine wpList_make_full _ rfl _ _ 44 rfl w1.1.size 135 i0 (.slice none 0 0) 1 underlying44 hi hz0 hz1 .i64 .i64 _ _ ts.length rfl rfl rfl rfl (by rw[hz2];omega) (by unfold maxLen;omega) (Nat.le_refl _) ?_;intro wA hown hgrow;have HBA:=Zd ((Below.refl w1.1.size w1).grown hgrow (Nat.le_refl _) (fun k e=>by cases e));obtain⟨xsA,hhA,hxA⟩:=Ba hown;have HA:=Zd hhA;have HX:=Zd hxA;clear hown hgrow hhA hxA)
      have HN0:=Zd (flowS_new (gv:=.slice (some ⟨gb,goff,none⟩) ts.length cap) HA.o HX.o (Nat.le_refl w1.1.size) 96)
      have HBT:=Zd (fun o=>HBA.o.trans ((Zk wA o).mono HBA.o.size))
      obtain⟨SRC,hSRC⟩:=nmd (Ke (ts.map Zz) ts.length)
      have HSR:=Zd hSRC
      obtain⟨lo,hlo⟩:=nmd (w1.1.size)
      obtain⟨p,hp⟩:=nmd (wA.1.size)
      have hlo1:w.1.size≤lo:=by rw[hlo];exact HB1.o.size
      rw[←hlo]at HN0 HBT ⊢
      rw[←hp]at HN0 ⊢
      clear hSRC hlo hp
      go_loopw [8,30] (fun u i wr=>∃(m:Nat)(v:Value),v=u∧i=.int .i64 (m:Int)∧m≤ms.length∧∃bb xs ev fv uv,Zi (FlowS lo wr p bb (.slice (some ⟨gb,goff,none⟩) ts.length cap) xs ev fv uv (Pu (ts.map Zz) SRC (ms.take m) (pp0 ts.length)).2)∧Zi (kI.Own lo wr v (Pu (ts.map Zz) SRC (ms.take m) (pp0 ts.length)).1)∧Zi (∀b,v.ownBlock=some b→¬FO p bb xs ev fv uv b)∧Zi (Below lo w1 wr)) (fun _ i _=>ms.length-(intOf i).toNat)
      case atStart=>exact⟨0,_,rfl,rfl,Nat.zero_le _,_,_,_,_,_,HN0,Kind.Own.nil _ _ _,(fun b hb=>by simp[Value.ownBlock]at hb),HBT.o _⟩
      case round =>
        obtain⟨m,v,rfl,rfl,hm,bb,xs,ev,fv,uv,hF,hO,hA,hB⟩:=hrel
        by_cases hlt:m<ms.length
        · obtain⟨b,off,rfl,hb,hc⟩:=kMv_at HM.o hlt
          obtain⟨d0,d1,d2⟩:=hc m hlt
          have HW:=Zd (HB1.o.trans (hB.o.mono hlo1))
          have e0:=(HW.o.cell (p:=⟨b,off+m*3,none⟩) hb).trans d0
          have e1:=(HW.o.cell (p:=⟨b,off+m*3+1,none⟩) hb).trans d1
          have e2:=(HW.o.cell (p:=⟨b,off+m*3+2,none⟩) hb).trans d2
          have h6:=H64.o m hlt
          have HT:=Zd (Zy hlt)
          have HBN:=Zd (Mj SRC HGE.o.edg ms (by rw[Zb];exact pp0_bnd ts.length) m hm)
          have HIV:=Zd (playP_inv SRC HGE.o ms (s:=pp0 ts.length) (by have q:=pp0_inv HGE.o;rw[Zb]at q;exact q) (by rw[Zb];exact pp0_bnd ts.length) m hm)
          clear d0 d1 d2 hc
          go_wp2_with fail
          have hb6:=Zk wr (.cells #[.int .i64 (el ms m).1,.int .i64 (el ms m).2.1,.int .i64 (el ms m).2.2] 127)
          have hlr:lo≤wr.1.size:=hF.o.lo_le
          have HBV:=Zd (HW.o.trans (hb6.mono HW.o.size))
          have HBN2:=HBN.o
          rw[Zb]at HBN2
          have hmv:=moveS_any lo _ p bb gb goff cap ts xs ev fv uv _ (el ms m).1 (el ms m).2.1 (el ms m).2.2 (hF.o.later hb6) ((HZ.o.below Zf HBV.o).up Zf hlo1) HGE.o HIV.o (HBN2.raw (by omega)) h6
          rw[←HSR.o]at hmv
          refine hmv.mono ?_
          rintro e w4 ⟨rfl,hs4⟩
          obtain⟨bb4,xs4,ev4,fv4,uv4,F4,O4,A4,B4⟩:=hs4.codes (hO.o.below hb6) hA.o
          obtain⟨cd,hcd⟩:=nmd ((doR (ts.map Zz) SRC (Pu (ts.map Zz) SRC (ms.take m) (pp0 ts.length)).2 (el ms m).1 (el ms m).2.1 (el ms m).2.2).1)
          have hps:=Gs (ts.map Zz) SRC (ms.take m) (el ms m) (pp0 ts.length)
          rw[←hcd]at hps
          have hol:=playP_len (ts.map Zz) SRC ms (pp0 ts.length) m hm
          rw[←hcd]
          obtain⟨X,hX⟩:=nmd (w4.alloc (.cells #[.int .i64 cd] 3))
          have hbX:Below w4.1.size w4 X:=by rw[hX];exact Zk _ _
          have hNX:kI.In X.1.size X (some ⟨w4.1.size,0,none⟩) [cd]:=by
            have hx:Bx X w4.1.size [.int .i64 cd]:=by rw[hX];exact Bx.new (w:=w4) [.int .i64 cd] 3 rfl
            exact To hx.size fun j hj => by
              obtain rfl : j = 0 := by simp at hj; omega
              exact hx.c 0 rfl
          have HX:=Zd hX
          have HFX:=Zd (F4.later hbX)
          have HOX:=Zd (O4.below hbX)
          have HN:=Zd hNX
          have HAX:=Zd A4
          have HBB:Zi (Below lo w1 X):=hB.o.trans (((hb6.mono hlr).trans B4).trans (hbX.mono F4.lo_le))
          have hlX:lo≤X.1.size:=HFX.o.lo_le
          have HPS:=Zd hps
          clear hX hbX hNX F4 O4 A4 B4 hcd hps HBN2 hb6 HBV e0 e1 e2 hF hO hA hmv
          go_wp2_with (at_builtin;rw[←HX.o];refine Kq Vq X rfl (.tmp 34) (.tmp 38) rfl lo v (Pu (ts.map Zz) SRC (ms.take m) (pp0 ts.length)).1 rfl HOX.o hlX (some ⟨w4.1.size,0,none⟩) [cd] 1 1 rfl rfl (by simp) _ HN.o (by simp;omega) ?_;intro v' w5 hO5 hB5 hG5 hw5;have HC5:=Zd (HFX.o.code HAX.o hG5 hw5);have HO5:=Zd hO5;have HB5:=Zd (HBB.o.trans hB5);clear hO5 hB5 hG5 hw5)
          go_roundw
          case rel=>exact⟨m+1,v',rfl,by go_num,by omega,bb4,xs4,ev4,fv4,uv4,by rw[HT.o,HPS.o];exact HC5.o.1,by rw[HT.o,HPS.o];exact HO5,HC5.o.2,HB5⟩
          case measure=>simp[intOf];omega
        · obtain rfl:m=ms.length:=by omega
          rw[List.take_length]at hF hO
          go_wp2
          refine bodyPost_ret (v:=.tuple #[.pointer (some ⟨p,0,none⟩),v,.bool true]) (by simp[results,results139,go_sem]) rfl ?_
          refine⟨?_,HB1.o.trans (hB.o.mono hlo1)⟩
          rw[if_pos ⟨hok,hl⟩,←HSR.o]
          exact⟨lo,p,bb,xs,ev,fv,uv,v,rfl,hlo1,hF.o,hO.o,hA.o⟩
    · have hd:decide ((300:Int)<(ms.length:Int))=true:=by simp;omega
      go_enter func139,ntmps139
      go_wp2_with fail
      refine HF.o.mono ?_
      rintro e w1 ⟨rfl,hb1⟩
      go_wp2
      refine bodyPost_ret (v:=.tuple #[.pointer (some ⟨w1.1.size,0,none⟩),.slice none 0 0,.bool false]) (by simp[results,results139,go_sem]) rfl ?_
      exact⟨by rw[if_neg (fun h=>hl h.2)];exact⟨_,rfl⟩,hb1.trans ((Zk w1 _).mono hb1.size)⟩
  · obtain hok2:Kv (ts.map Zz)=false:=by simpa using hok
    rw[hok2]at HF
    go_enter func139,ntmps139
    go_wp2_with fail
    refine HF.o.mono ?_
    rintro e w1 ⟨rfl,hb1⟩
    go_wp2
    refine bodyPost_ret (v:=.tuple #[.pointer (some ⟨w1.1.size,0,none⟩),.slice none 0 0,.bool false]) (by simp[results,results139,go_sem]) rfl ?_
    exact⟨by rw[if_neg (fun h=>hok h.1)];exact⟨_,rfl⟩,hb1.trans ((Zk w1 _).mono hb1.size)⟩
theorem Kind.Fresh.ownR{α:Type}{K:Kind α}{lo hi:Nat}{W:World}{tq:Option Addr}{tc:Nat}{xs:List α}(h:K.Fresh lo hi W tq tc xs)(hn:0<xs.length):K.Own lo W (.slice tq xs.length tc) xs:=by
 obtain⟨g,e,_,_,_,ho⟩:=h.at hn;subst e;exact ho
def AnsRn(lo p:Nat)(gv:Value)(gs:List PNode)(s:PP)(K:Nat)(W:World)(e:Ending)(W':World):Prop :=
 ∃bb xs ev fv uv,e=.returned (.int .i64 (K:Int))∧FlowS lo W' p bb gv xs ev fv uv (itS gs K { s with cl:=true })∧Below lo W W'
theorem runS_any(lo:Nat)(W:World)(p bb gb goff gc:Nat)(ts:List LNode)(xs:List Value)(ev fv uv:Value)(s:PP)(K:Nat)(h:FlowS lo W p bb (.slice (some ⟨gb,goff,none⟩) ts.length gc) xs ev fv uv s)(hz:DIn Ja lo W (some ⟨gb,goff,none⟩) ts)(h1:0<ts.length)(hG:GoodE (ts.map Zz))(hR:Ordd (ts.map Zz) (Zv (ts.map Zz)))(hI:RunI (ts.map Zz) 40000 9000 { s with cl:=true })(hK:Halts (ts.map Zz) { s with cl:=true } K)(hK2:K≤1000000000000000000) :
  Calls prog 141 #[.pointer (some ⟨p,0,none⟩)] W (AnsRn lo p (.slice (some ⟨gb,goff,none⟩) ts.length gc) (ts.map Zz) s K W):=by
 have hlo:lo≤W.1.size:=h.lo_le;have hp:=h.box.size;have hmany:ts.length≤10:=by have:=hG.edg.many;rw[List.length_map]at this;exact this
 obtain⟨gs,hgs⟩:=nmd (ts.map Zz);have hgl:gs.length=ts.length:=by rw[hgs,Zb]
 have HFC:=Zd (h.putCl true);obtain⟨V,hV⟩:=nmd (W.setCell ⟨p,3,none⟩ (.bool true));rw[←hV]at HFC;have HV:=Zd hV;have c3:=h.box.c 3 rfl;have f3:=h.box.f 3 rfl;have c0:=h.box.c 0 rfl;have hzV:=hz.below Zf HFC.o.low;have HZ:=Zd hz;have hnl:¬(Zv (ts.map Zz)).length<(ts.map Zz).length:=by have:=hR.len;omega
 have HO:=Zd (Mr (some ⟨gb,goff,none⟩) gc ts V hG.edg hnl (hzV.up Zf HFC.o.flow.lo_le));have HG:=Zd hG;have HR:=Zd hR;have HI:=Zd (fun n=>hI.it hG hR n);have HK:=Zd hK;rw[←hgs]at HO HG HR HI HK ⊢;have HGS:=Zd hgs;obtain⟨s0,hs0⟩:∃s0:PP,s0={ s with cl:=true }:=⟨_,rfl⟩;have HS0:=Zd hs0;rw[←hs0]at HFC HI HK;have hRl:(Zv gs).length=ts.length:=by rw[HR.o.len,hgl]
 clear hV hz hzV hnl hG hR hI hK hgs hs0;go_enter func141,ntmps141;go_wp2_with fail;rw[←HV.o];refine HO.o.mono ?_;rintro e w1 ⟨⟨go,qc,rfl,hF1⟩,hb1⟩;clear c0 c3 f3;have HB1:=Zd (HFC.o.low.trans (hb1.mono HFC.o.flow.lo_le));have HO1:=Zd ((hF1.ownR (by omega)).mono HFC.o.flow.lo_le);have HA1:Zi (∀b,(Value.slice go (Zv gs).length qc).ownBlock=some b→¬FO p bb xs ev fv uv b):=fun b hb hO=>by
  obtain⟨g,e,hlg,_⟩:=hF1.at (by omega);subst e;have:g=b:=by simpa[Value.ownBlock]using hb
  have:=HFC.o.flow.old hO
  omega
 have HF1:=Zd (HFC.o.flow.later hb1);clear hF1 hb1 HO;go_wp2
 go_loopw [4] (fun i wr=>∃(k bb:Nat)(xs:List Value)(ev fv uv:Value),i=.int .i64 (k:Int)∧k≤K∧Zi (FlowS lo wr p bb (.slice (some ⟨gb,goff,none⟩) ts.length gc) xs ev fv uv (itS gs k s0))∧Zi (kI.Own lo wr (.slice go (Zv gs).length qc) (Zv gs))∧Zi (∀b,(Value.slice go (Zv gs).length qc).ownBlock=some b→¬FO p bb xs ev fv uv b)∧Zi (Below lo W wr)) (fun i _=>K-(intOf i).toNat)
 case atStart=>exact⟨0,bb,xs,ev,fv,uv,rfl,Nat.zero_le _,HF1,HO1,HA1,HB1⟩
 case round =>
  clear HF1 HO1 HA1 HB1 HFC HV;obtain⟨k,bb,xs,ev,fv,uv,rfl,hk,hF,hO,hA,hB⟩:=hrel;have HRI:=Zd (HI.o k);have hlen:=HRI.o.len;have htc:=Li HG.o HRI.o.inv hlen;have HL:=Zd (liveM_any lo wr p bb _ xs ev fv uv _ hF.o (by omega) (by omega))
  by_cases hlt:k<K
  ·have hne:=HK.o.go k hlt;have HLT:=Zd (Rw HG.o HR.o HRI.o hne);have HNX:Zi (itS gs (k+1) s0=(Ko gs (Zv gs).reverse (itS gs k s0)).2):=rfl;obtain⟨sk,hsk⟩:=nmd (itS gs k s0);rw[←hsk]at hF HRI HL HLT HNX hne htc hlen;have htp:0<Zs sk.bx:=by omega
   have hlen1:sk.bx.length≤ts.length:=by omega
   have hlen2:ts.length≤sk.bx.length:=by omega
   clear hsk hne htc hlen;have HRL:=Zd hRl;have hr1:(Zv gs).length≤ts.length:=by omega
   have hr2:ts.length≤(Zv gs).length:=by omega
   clear hRl;go_wp2_with fail;refine HL.o.mono ?_;rintro e w2 ⟨rfl,hb2⟩;have HF2:=Zd (hF.o.later hb2);have HO2:=Zd (hO.o.below hb2);have HB2:=Zd (hB.o.trans (hb2.mono hF.o.lo_le));clear hb2 hF hO hB HL;go_wp2
   go_loopw [4,5] (fun u i wq=>∃(m bb:Nat)(xs:List Value)(ev fv uv:Value),u=.int .i64 (k:Int)∧i=.int .i64 ((m:Int)-1)∧m≤ts.length∧Zi (Ko gs ((Zv gs).reverse.drop (ts.length-m)) sk=Ko gs (Zv gs).reverse sk)∧Zi (FlowS lo wq p bb (.slice (some ⟨gb,goff,none⟩) ts.length gc) xs ev fv uv sk)∧Zi (kI.Own lo wq (.slice go (Zv gs).length qc) (Zv gs))∧Zi (∀b,(Value.slice go (Zv gs).length qc).ownBlock=some b→¬FO p bb xs ev fv uv b)∧Zi (Below lo W wq)) (fun _ i _=>(intOf i+1).toNat)
   case atStart=>exact⟨ts.length,bb,xs,ev,fv,uv,rfl,rfl,Nat.le_refl _,by rw[Zi,Nat.sub_self,List.drop_zero],HF2,HO2,hA,HB2⟩
   case round =>
    clear HF2 HO2 hA HB2
    rename World=>wq
    obtain⟨m,bb,xs,ev,fv,uv,rfl,rfl,hm,hS,hF,hO,hA,hB⟩:=hrel
    cases m with
    |zero =>
     exfalso
     have h2:=hS.o;rw[List.drop_eq_nil_of_le (by rw[List.length_reverse,HRL.o];omega)]at h2;have h3:=HLT.o;rw[←h2]at h3
     cases h3
    |succ m =>
     obtain⟨co,cc,e,_,hCI⟩:=hO.o.in;obtain⟨rfl,rfl⟩:go=co∧qc=cc:=by simp at e;exact e
     have hmr:m<(Zv gs).length:=by omega
     obtain⟨cb,coff,rfl,hcb,hcc⟩:=Zo hCI (k:=m) (by omega);have ec:=hcc m (by omega);obtain⟨j,hj,ej⟩:=HR.o.rng (el (Zv gs) m) (Zl hmr);rw[ej]at ec;have hjt:j<ts.length:=by omega
     have hel:el (Zv gs).reverse (ts.length-(m+1))=(j:Int):=by rw[Nx (by omega),←ej];congr 1;omega
     have hdr:(Zv gs).reverse.drop (ts.length-(m+1))=(j:Int)::(Zv gs).reverse.drop (ts.length-m):=by
      have hlr:ts.length-(m+1)<(Zv gs).reverse.length:=by rw[List.length_reverse];omega
      rw[List.drop_eq_getElem_cons hlr,←Km hlr,hel,show ts.length-(m+1)+1=ts.length-m by omega]
     have hS2:=hS.o;rw[hdr,Ko]at hS2;have HS2:=Zd hS2;have hjs:j<sk.bx.length:=by omega
     have hji:(j:Int)<(sk.bx.length:Int):=by omega
     have c4:=hF.o.box.c 4 rfl;have ck:=(hF.o.head hjs).1;obtain⟨ho,hc,hsl,_,_⟩:=hF.o.hnd.slice hjs;rw[hsl]at ck;have hpq:=hF.o.box.size;have hbq:=hF.o.hnd.size;clear hsl hS hS2 hdr hel ej hcc hCI e
     cases hbx:el sk.bx j with
     |nil =>
      rw[hbx]at ck;dsimp only[List.length_nil]at ck;have hR5:Qk gs sk (j:Int)=(5,sk):=by rw[Qk,if_pos ⟨by omega,by omega⟩,Int.toNat_natCast,hbx]
      have hS3:=HS2.o;rw[hR5,if_neg (show¬(5:Int)=0 by decide)]at hS3;have HS3:=Zd hS3;clear hS3 hR5 hbx;go_wp2_with fail;go_roundw
      case rel=>exact⟨m,bb,xs,ev,fv,uv,rfl,rfl,by omega,HS3,hF,hO,hA,hB⟩
      case measure=>simp[intOf]
     |cons t r =>
      obtain⟨t1,t2,t3⟩:=t;obtain⟨n,hbn⟩:=HRI.o.bnd;have htr:=HRI.o.tr j (t1,t2,t3) (by rw[hbx];simp);have hvv:=HRI.o.inv.val j (t1,t2,t3) (by rw[hbx];simp);have hem:=HRI.o.em;have hfa:=HRI.o.fa2;have hwn:0≤Vg (fun k _=>wdP gs (Zv gs) k) sk.bx:=bxsF_nn fun i t hi _=>by have:=Yi HR.o HG.o.edg HG.o.st (show i<gs.length by omega);omega
      have htc:=Li HG.o HRI.o.inv HRI.o.len;dsimp only at htr hvv;have hst:=stepS_any lo wq p bb gb goff gc ts xs ev fv uv sk j t1 t2 t3 r hF.o (by omega) hjt hbx (HZ.o.below Zf hB.o) (by rw[←HGS.o];exact HG.o) hvv (by omega) (by omega) (by have:=hbn.fu;omega) hbn.ti0 hbn.ti1 htr.1 (by omega);rw[←HGS.o]at hst;have HST:=Zd hst;rw[hbx]at ck;have hne2:(0:Int)<((((t1,t2,t3)::r).length:Nat):Int):=by rw[List.length_cons];omega
      have hne3:0<r.length+1:=by omega
      clear hst htr hvv hem hfa hwn htc hbn hbx;obtain⟨cd,hcd⟩:=nmd ((Qk gs sk (j:Int)).1)
      by_cases h0:cd=0
      ·have HNX2:Zi (itS gs (k+1) s0=(Qk gs sk (j:Int)).2):=by
        have h2:=HS2.o;rw[←hcd,if_pos h0]at h2;rw[Zi,HNX.o,←h2]
       rw[←hcd,h0]at HST;clear hcd h0;go_wp2_with fail;refine HST.o.mono ?_;rintro e w4 ⟨rfl,hs4⟩;obtain⟨bb4,xs4,ev4,fv4,uv4,F4,O4,A4,B4⟩:=hs4.codes hO.o hA.o;have HF4:=Zd F4;have HO4:=Zd O4;have HA4:=Zd A4;have HB4:=Zd (hB.o.trans B4);clear hs4 F4 O4 A4 B4 HST c4 ck ec;go_wp2;go_roundw
       case rel=>exact⟨k+1,bb4,xs4,ev4,fv4,uv4,by go_num,by omega,by rw[HNX2.o];exact HF4,HO4,HA4,HB4⟩
       case measure=>simp[intOf];omega
      ·have HNO:=Zd (Ln (gs:=gs) (s:=sk) (m:=(j:Int)) (by rw[←hcd];exact h0));have HS3:Zi (Ko gs ((Zv gs).reverse.drop (ts.length-m)) sk=Ko gs (Zv gs).reverse sk):=by
        have h2:=HS2.o
        rwa [←hcd,if_neg h0]at h2
       rw[←hcd,HNO.o]at HST;have hd0:(cd==0)=false:=by simpa using h0
       clear hcd h0;go_wp2_with fail;refine HST.o.mono ?_;rintro e w4 ⟨rfl,hs4⟩;obtain⟨bb4,xs4,ev4,fv4,uv4,F4,O4,A4,B4⟩:=hs4.codes hO.o hA.o;have HF4:=Zd F4;have HO4:=Zd O4;have HA4:=Zd A4;have HB4:=Zd (hB.o.trans B4);clear hs4 F4 O4 A4 B4 HST c4 ck ec;go_wp2;go_roundw
       case rel=>exact⟨m,bb4,xs4,ev4,fv4,uv4,rfl,rfl,by omega,HS3,HF4,HO4,HA4,HB4⟩
       case measure=>simp[intOf]
  ·obtain rfl:k=K:=by omega
   have hd:=HK.o.stop;obtain⟨sk,hsk⟩:=nmd (itS gs k s0);have HSK:=Zd hsk;rw[←hsk]at hF HRI HL hd;rw[hd]at HL;clear hsk hd htc hlen;go_wp2_with fail;refine HL.o.mono ?_;rintro e w2 ⟨rfl,hb2⟩;have HF2:=Zd (hF.o.later hb2);have HB2:=Zd (hB.o.trans (hb2.mono hF.o.lo_le));clear hb2 hF hO hB HL;go_wp2;go_ret;exact⟨bb,xs,ev,fv,uv,rfl,by rw[←HS0.o,←HSK.o];exact HF2.o,HB2.o⟩
def formR(x:ByteArray):Int×Int×Bool:=match(List.range 11).find? fun k=>decide (x=Vj k)with
 |some k=>((Uh k:Int),if k<6 then(k:Int)+1 else 0,true)
 |none=>(0,0,false)
theorem formR_hit{k:Nat}(hk:k<11)(hn:∀j,j<k→Vj k≠Vj j):formR (Vj k)=((Uh k:Int),if k<6 then(k:Int)+1 else 0,true):=by
 have h:(List.range 11).find? (fun j=>decide (Vj k=Vj j))=some k:=by
  rw[List.find?_eq_some_iff_getElem];refine⟨by simp,k,by simpa using hk,by simp,fun j hj=>?_⟩;rw[List.getElem_range,decide_eq_false (hn j hj)];rfl
 rw[formR,h]
theorem Tp{x:ByteArray}(h:∀j,j<11→x≠Vj j):formR x=(0,0,false):=by
 have h2:(List.range 11).find? (fun j=>decide (x=Vj j))=none:=by
  rw[List.find?_eq_none];intro j hj
  simpa using h j (List.mem_range.1 hj)
 rw[formR,h2]
theorem Rr:∀i j:Nat,i<11→j<i→Vj i≠Vj j:=by
 intro i j hi hj e;have h:∀i:Fin 11,∀j:Fin 11,j<i→(Vj i).data.toList≠(Vj j).data.toList:=by decide
 exact h ⟨i,hi⟩ ⟨j,by omega⟩ hj (by rw[e])
theorem form_0(w:World):Calls prog 109 #[.string (Vj 0)] w fun e w'=>e=.returned (.tuple #[.int .i64 2,.int .i64 1,.bool true])∧w'=w:=by
 show Calls prog 109 #[.string ⟨#[111,102,102,101,114]⟩] w _
 go_enter func109,ntmps109;go_wp2;exact bodyPost_ret (v:=.tuple #[.int .i64 2,.int .i64 1,.bool true]) (by simp[results,results109,go_sem]) rfl ⟨rfl,rfl⟩
theorem form_1(w:World):Calls prog 109 #[.string (Vj 1)] w fun e w'=>e=.returned (.tuple #[.int .i64 1,.int .i64 2,.bool true])∧w'=w:=by
 show Calls prog 109 #[.string ⟨#[115,116,101,112]⟩] w _
 go_enter func109,ntmps109;go_wp2;exact bodyPost_ret (v:=.tuple #[.int .i64 1,.int .i64 2,.bool true]) (by simp[results,results109,go_sem]) rfl ⟨rfl,rfl⟩
theorem form_2(w:World):Calls prog 109 #[.string (Vj 2)] w fun e w'=>e=.returned (.tuple #[.int .i64 1,.int .i64 3,.bool true])∧w'=w:=by
 show Calls prog 109 #[.string ⟨#[102,97,117,108,116]⟩] w _
 go_enter func109,ntmps109;go_wp2;exact bodyPost_ret (v:=.tuple #[.int .i64 1,.int .i64 3,.bool true]) (by simp[results,results109,go_sem]) rfl ⟨rfl,rfl⟩
theorem form_3(w:World):Calls prog 109 #[.string (Vj 3)] w fun e w'=>e=.returned (.tuple #[.int .i64 1,.int .i64 4,.bool true])∧w'=w:=by
 show Calls prog 109 #[.string ⟨#[116,105,99,107]⟩] w _
 go_enter func109,ntmps109;go_wp2;exact bodyPost_ret (v:=.tuple #[.int .i64 1,.int .i64 4,.bool true]) (by simp[results,results109,go_sem]) rfl ⟨rfl,rfl⟩
theorem form_4(w:World):Calls prog 109 #[.string (Vj 4)] w fun e w'=>e=.returned (.tuple #[.int .i64 0,.int .i64 5,.bool true])∧w'=w:=by
 show Calls prog 109 #[.string ⟨#[100,114,97,105,110]⟩] w _
 go_enter func109,ntmps109;go_wp2;exact bodyPost_ret (v:=.tuple #[.int .i64 0,.int .i64 5,.bool true]) (by simp[results,results109,go_sem]) rfl ⟨rfl,rfl⟩
theorem form_5(w:World):Calls prog 109 #[.string (Vj 5)] w fun e w'=>e=.returned (.tuple #[.int .i64 0,.int .i64 6,.bool true])∧w'=w:=by
 show Calls prog 109 #[.string ⟨#[97,98,111,114,116]⟩] w _
 go_enter func109,ntmps109;go_wp2;exact bodyPost_ret (v:=.tuple #[.int .i64 0,.int .i64 6,.bool true]) (by simp[results,results109,go_sem]) rfl ⟨rfl,rfl⟩
theorem form_6(w:World):Calls prog 109 #[.string (Vj 6)] w fun e w'=>e=.returned (.tuple #[.int .i64 0,.int .i64 0,.bool true])∧w'=w:=by
 show Calls prog 109 #[.string ⟨#[114,117,110]⟩] w _
 go_enter func109,ntmps109;go_wp2;exact bodyPost_ret (v:=.tuple #[.int .i64 0,.int .i64 0,.bool true]) (by simp[results,results109,go_sem]) rfl ⟨rfl,rfl⟩
theorem form_7(w:World):Calls prog 109 #[.string (Vj 7)] w fun e w'=>e=.returned (.tuple #[.int .i64 0,.int .i64 0,.bool true])∧w'=w:=by
 show Calls prog 109 #[.string ⟨#[114,101,112,111,114,116]⟩] w _
 go_enter func109,ntmps109;go_wp2;exact bodyPost_ret (v:=.tuple #[.int .i64 0,.int .i64 0,.bool true]) (by simp[results,results109,go_sem]) rfl ⟨rfl,rfl⟩
theorem form_8(w:World):Calls prog 109 #[.string (Vj 8)] w fun e w'=>e=.returned (.tuple #[.int .i64 0,.int .i64 0,.bool true])∧w'=w:=by
 show Calls prog 109 #[.string ⟨#[111,117,116]⟩] w _
 go_enter func109,ntmps109;go_wp2;exact bodyPost_ret (v:=.tuple #[.int .i64 0,.int .i64 0,.bool true]) (by simp[results,results109,go_sem]) rfl ⟨rfl,rfl⟩
theorem form_9(w:World):Calls prog 109 #[.string (Vj 9)] w fun e w'=>e=.returned (.tuple #[.int .i64 0,.int .i64 0,.bool true])∧w'=w:=by
 show Calls prog 109 #[.string ⟨#[108,111,115,116]⟩] w _
 go_enter func109,ntmps109;go_wp2;exact bodyPost_ret (v:=.tuple #[.int .i64 0,.int .i64 0,.bool true]) (by simp[results,results109,go_sem]) rfl ⟨rfl,rfl⟩
theorem form_10(w:World):Calls prog 109 #[.string (Vj 10)] w fun e w'=>e=.returned (.tuple #[.int .i64 2,.int .i64 0,.bool true])∧w'=w:=by
 show Calls prog 109 #[.string ⟨#[109,101,97,110]⟩] w _
 go_enter func109,ntmps109;go_wp2;exact bodyPost_ret (v:=.tuple #[.int .i64 2,.int .i64 0,.bool true]) (by simp[results,results109,go_sem]) rfl ⟨rfl,rfl⟩
theorem form_none(x:ByteArray)(h:∀j,j<11→x≠Vj j)(w:World):Calls prog 109 #[.string x] w fun e w'=>e=.returned (.tuple #[.int .i64 0,.int .i64 0,.bool false])∧w'=w:=by
 have m0:(x.toList==[111,102,102,101,114])=false:=by
  rw[beq_eq_false_iff_ne];exact fun e=>h 0 (by omega) (Ze (by rw[e];exact(Lib.toList_data ⟨#[111,102,102,101,114]⟩).symm▸rfl))
 have m1:(x.toList==[115,116,101,112])=false:=by
  rw[beq_eq_false_iff_ne];exact fun e=>h 1 (by omega) (Ze (by rw[e];exact(Lib.toList_data ⟨#[115,116,101,112]⟩).symm▸rfl))
 have m2:(x.toList==[102,97,117,108,116])=false:=by
  rw[beq_eq_false_iff_ne];exact fun e=>h 2 (by omega) (Ze (by rw[e];exact(Lib.toList_data ⟨#[102,97,117,108,116]⟩).symm▸rfl))
 have m3:(x.toList==[116,105,99,107])=false:=by
  rw[beq_eq_false_iff_ne];exact fun e=>h 3 (by omega) (Ze (by rw[e];exact(Lib.toList_data ⟨#[116,105,99,107]⟩).symm▸rfl))
 have m4:(x.toList==[100,114,97,105,110])=false:=by
  rw[beq_eq_false_iff_ne];exact fun e=>h 4 (by omega) (Ze (by rw[e];exact(Lib.toList_data ⟨#[100,114,97,105,110]⟩).symm▸rfl))
 have m5:(x.toList==[97,98,111,114,116])=false:=by
  rw[beq_eq_false_iff_ne];exact fun e=>h 5 (by omega) (Ze (by rw[e];exact(Lib.toList_data ⟨#[97,98,111,114,116]⟩).symm▸rfl))
 have m6:(x.toList==[114,117,110])=false:=by
  rw[beq_eq_false_iff_ne];exact fun e=>h 6 (by omega) (Ze (by rw[e];exact(Lib.toList_data ⟨#[114,117,110]⟩).symm▸rfl))
 have m7:(x.toList==[114,101,112,111,114,116])=false:=by
  rw[beq_eq_false_iff_ne];exact fun e=>h 7 (by omega) (Ze (by rw[e];exact(Lib.toList_data ⟨#[114,101,112,111,114,116]⟩).symm▸rfl))
 have m8:(x.toList==[111,117,116])=false:=by
  rw[beq_eq_false_iff_ne];exact fun e=>h 8 (by omega) (Ze (by rw[e];exact(Lib.toList_data ⟨#[111,117,116]⟩).symm▸rfl))
 have m9:(x.toList==[108,111,115,116])=false:=by
  rw[beq_eq_false_iff_ne];exact fun e=>h 9 (by omega) (Ze (by rw[e];exact(Lib.toList_data ⟨#[108,111,115,116]⟩).symm▸rfl))
 have m10:(x.toList==[109,101,97,110])=false:=by
  rw[beq_eq_false_iff_ne];exact fun e=>h 10 (by omega) (Ze (by rw[e];exact(Lib.toList_data ⟨#[109,101,97,110]⟩).symm▸rfl))
 clear h;go_enter func109,ntmps109;go_wp2;exact bodyPost_ret (v:=.tuple #[.int .i64 0,.int .i64 0,.bool false]) (by simp[results,results109,go_sem]) rfl ⟨rfl,rfl⟩
theorem Cv(x:ByteArray)(w:World):Calls prog 109 #[.string x] w fun e w'=>e=.returned (.tuple #[.int .i64 (formR x).1,.int .i64 (formR x).2.1,.bool (formR x).2.2])∧w'=w:=by
 by_cases hx:∃k,k<11∧x=Vj k
 ·obtain⟨k,hk,rfl⟩:=hx;rw[formR_hit hk fun j hj=>Rr k j hk hj]
  rcases(show k=0∨k=1∨k=2∨k=3∨k=4∨k=5∨k=6∨k=7∨k=8∨k=9∨k=10 from by omega)with rfl|rfl|rfl|rfl|rfl|rfl|rfl|rfl|rfl|rfl|rfl
  ·exact form_0 w
  ·exact form_1 w
  ·exact form_2 w
  ·exact form_3 w
  ·exact form_4 w
  ·exact form_5 w
  ·exact form_6 w
  ·exact form_7 w
  ·exact form_8 w
  ·exact form_9 w
  ·exact form_10 w
 ·have hn:∀j,j<11→x≠Vj j:=fun j hj e=>hx ⟨j,hj,e⟩
  rw[Tp hn];exact form_none x hn w
end Go.Proofs.YtdacedbfnlkghaaGreatDoor