/- An offer. A step of a node. A move: the program. Moves one after another, plainly; a flow where its blocks are as they were. Moves one after another: the program (under way). Moves played on a new pipe: the program. What holds of a pipe that plays on a good graph, plainly. No conditions but those written. -/
import Derived.Test.YtdacedbfnlkghaaGreatDoorUWyYs
namespace Go.Proofs.YtdacedbfnlkghaaGreatDoor
set_option maxHeartbeats 2000000
set_option maxRecDepth 100000
open Go.RowKit Go.Proofs.Tryz
theorem offer_any(lo:Nat)(W:World)(p bb gb goff gc:Nat)(ts:List LNode)(so:Option Addr)(sc:Nat)(src:List Int)(xs:List Value)(ev fv uv:Value)(s:PP)(m1 m2 m3:Int)(h:Flow lo W p bb (.slice (some ⟨gb,goff,none⟩) ts.length gc) (.slice so src.length sc) xs ev fv uv s)(hn:s.bx.length=ts.length)(hz:DIn Ja lo W (some ⟨gb,goff,none⟩) ts)(hI:kI.In lo W so src)(hrs:∀x∈src,∃j:Nat,j<ts.length∧x=(j:Int))(hsl:src.length≤1000)(hcap:∀j,j<ts.length→0≤Wa (ts.map Zz) j∧Wa (ts.map Zz) j≤1000)(ht:Zs s.bx≤100000)(hi0:0≤s.it)(hi1:s.it≤1000000) :
  Calls prog 247 #[.pointer (some ⟨p,0,none⟩),.agg #[.int .i64 m1,.int .i64 m2,.int .i64 m3]] W fun e W'=>e=.returned (.int .i64 (Qp (ts.map Zz) src s m2 m3).1)∧FStep lo p (.slice (some ⟨gb,goff,none⟩) ts.length gc) (.slice so src.length sc) (FO p bb xs ev fv uv) W W' (Qp (ts.map Zz) src s m2 m3).2:=by
 have hb0:=Zk W (.cells #[.int .i64 m1,.int .i64 m2,.int .i64 m3] 127);have hlo:lo≤W.1.size:=Nat.le_of_lt (Nat.lt_of_le_of_lt h.lop h.box.size);have F0:=h.later hb0;have hp:=h.box.size;obtain⟨V,hV⟩:=nmd (W.alloc (.cells #[.int .i64 m1,.int .i64 m2,.int .i64 m3] 127));rw[←hV]at hb0 F0;have HF0:=Zd F0;have HB0:=Zd hb0;have HV:=Zd hV;have M0:=Bx.new (w:=W) [.int .i64 m1,.int .i64 m2,.int .i64 m3] 127 rfl;rw[←hV]at M0;have b1:=M0.c 1 rfl;have b2:=M0.c 2 rfl;have c1:=F0.box.c 1 rfl;have HM0:=Zd M0;have HCN:Zi (∀b,Wr src m2=b→∀n,Calls prog 200 #[.slice so src.length sc,.int .i64 m2] (V.drewN n) fun e w'=>e=.returned (.bool b)∧w'=V.drewN n):=fun b hb n =>
  Ux lo so sc src m2 _ b (by omega) (hI.below (Zc (hb0.mono hlo) n)) hb
 have HVL:Zi (∀b,Ju m3=b→∀n,Calls prog 186 #[.int .i64 m3] (V.drewN n) fun e w'=>e=.returned (.bool b)∧w'=V.drewN n):=fun b hb n=>Jv m3 _ b hb
 clear hV hb0 M0 F0 hI
 rcases hh:Wr src m2 with _|_
 ·have HR:Zi (Qp (ts.map Zz) src s m2 m3=(2,s)):=by rw[Zi,Qp,if_neg (by rw[hh];simp)]
  have HC:=Zd (HCN.o _ hh);clear hh HCN HVL;go_enter func247,ntmps247;go_wp2_with fail;rw[←HV.o]
  go_quiet (exact Calls.quiet_of_same (HC.o _))
  go_wp2;go_ret;rw[HR.o];exact⟨rfl,FStep.same h (Zc HB0.o _)⟩
 rcases hv:Ju m3 with _|_
 ·have HR:Zi (Qp (ts.map Zz) src s m2 m3=(2,s)):=by rw[Zi,Qp,if_neg (by rw[hv];simp)]
  have HC:=Zd (HCN.o _ hh);have HL:=Zd (HVL.o _ hv);clear hh HCN HVL hv;go_enter func247,ntmps247;go_wp2_with fail;rw[←HV.o]
  go_quiet (first|exact Calls.quiet_of_same (HC.o _)|exact Calls.quiet_of_same (HL.o _))
  go_wp2;go_ret;rw[HR.o];exact⟨rfl,FStep.same h (Zc HB0.o _)⟩
 have HC:=Zd (HCN.o _ hh);have HL:=Zd (HVL.o _ hv);have hin:Wr src m2=true∧Ju m3=true:=⟨hh,hv⟩;obtain⟨k,hk,rfl⟩:=hrs m2 (by simpa[Wr]using hh);clear hh HCN HVL hv;have c4:=HF0.o.box.c 4 rfl
 rcases hcl:s.cl with _|_
 case true =>
  have HR:Zi (Qp (ts.map Zz) src s (k:Int) m3=(3,s)):=by rw[Zi,Qp,if_pos hin,if_pos hcl]
  rw[hcl]at c4;clear hin;go_enter func247,ntmps247;go_wp2_with fail;rw[←HV.o]
  go_quiet (first|exact Calls.quiet_of_same (HC.o _)|exact Calls.quiet_of_same (HL.o _))
  go_wp2;go_ret;rw[HR.o];exact⟨rfl,FStep.same h (Zc HB0.o _)⟩
 rw[hcl]at c4;obtain⟨b,off,e,hb,hc⟩:=Qw hz.1 hk;obtain⟨rfl,rfl⟩:gb=b∧goff=off:=by simp at e;exact e
 have hcp:Wa (ts.map Zz) k=(el ts k).2.2.2.2.1:=by rw[Wa,Jz hk];rfl
 have g4:=(hc k hk).2.2.2.2.1;rw[←hcp]at g4;have hck:=hcap k hk;have HRM:Zi (∀n,Calls prog 263 #[.pointer (some ⟨p,0,none⟩),.int .i64 (k:Int)] (V.drewN n) fun e w'=>e=.returned (.int .i64 (Wa (ts.map Zz) k-(el s.bx k).length))∧w'=(V.drewN n).drew):=fun n =>
  Ff lo (V.drewN n) p bb gb goff ts.length gc _ xs ev fv uv s k _ (HF0.o.later (Zc (Below.refl _ _) n)) (by omega) hk ((Zc HB0.o n).cell (p:=⟨gb,goff+k*6+4,none⟩) (by dsimp only;omega)|>.trans g4) hck.1 hck.2 ht
 by_cases hrm:Wa (ts.map Zz) k-((el s.bx k).length:Int)<1
 ·have HR:Zi (Qp (ts.map Zz) src s (k:Int) m3=(4,s)):=by rw[Zi,Qp,if_pos hin,if_neg (by simp[hcl]),Int.toNat_natCast,if_pos hrm]
  have hd:decide (Wa (ts.map Zz) k-((el s.bx k).length:Int)<1)=true:=by simpa using hrm
  generalize Wa (ts.map Zz) k-((el s.bx k).length:Int)=q at HRM hd
  clear hin hrm hc hck hcp g4 hcap;go_enter func247,ntmps247;go_wp2_with fail;rw[←HV.o]
  go_quiet (first|exact Calls.quiet_of_same (HC.o _)|exact Calls.quiet_of_same (HL.o _))
  go_wp2_with fail;refine(HRM.o _).mono ?_;rintro e w2 ⟨rfl,hw2⟩;rw[hw2];clear hw2 w2
  go_wp2;go_ret;rw[HR.o];exact⟨rfl,FStep.same h ((Zc HB0.o _).drew)⟩
 ·have HR:Zi (Qp (ts.map Zz) src s (k:Int) m3=(0,{ s with bx:=s.bx.set k (el s.bx k++[(s.it,m3,0)]),it:=s.it+1 })):=by rw[Zi,Qp,if_pos hin,if_neg (by simp[hcl]),Int.toNat_natCast,if_neg hrm]
  have hd:decide (Wa (ts.map Zz) k-((el s.bx k).length:Int)<1)=false:=by simpa using hrm
  generalize Wa (ts.map Zz) k-((el s.bx k).length:Int)=q at HRM hd
  clear hin hrm hc hck hcp g4 hcap;go_enter func247,ntmps247;go_wp2_with fail;rw[←HV.o]
  go_quiet (first|exact Calls.quiet_of_same (HC.o _)|exact Calls.quiet_of_same (HL.o _))
  go_wp2_with fail;refine(HRM.o _).mono ?_;rintro e w2 ⟨rfl,hw2⟩;have hB2:Below W.1.size W w2:=by rw[hw2];exact(Zc HB0.o _).drew
  have F2:Flow lo w2 p bb (.slice (some ⟨gb,goff,none⟩) ts.length gc) (.slice so src.length sc) xs ev fv uv s:=h.later hB2;have M2:Bx w2 W.1.size [.int .i64 m1,.int .i64 (k:Int),.int .i64 m3]:=by rw[hw2];exact(HM0.o.later (Zc (Below.refl _ _) _)).drew
  clear hw2 HRM c4 c1 b1 b2 HM0;have P0:w2.cell? ⟨p,3,none⟩=some (.int .i64 s.it)∧w2.cell? ⟨W.1.size,1,none⟩=some (.int .i64 (k:Int))∧w2.cell? ⟨W.1.size,2,none⟩=some (.int .i64 m3):=⟨F2.box.c 3 rfl,M2.c 1 rfl,M2.c 2 rfl⟩;have HPU:=Zd ((put_any lo w2.drew p bb _ _ xs ev fv uv s k s.it m3 0 (F2.later (Below.refl _ _).drew) (by omega) ht).mono fun e w3 hh=>And.intro hh (show w3.cell? ⟨p,3,none⟩=some (.int .i64 s.it)∧w3.cell? ⟨W.1.size,1,none⟩=some (.int .i64 (k:Int))∧w3.cell? ⟨W.1.size,2,none⟩=some (.int .i64 m3)from by
   obtain⟨_,hs3⟩:=hh;obtain⟨bb3,xs3,ev3,fv3,uv3,F3,hk3,_,_,_⟩:=hs3.next;have hkm:=hk3 W.1.size M2.size (h.far (Nat.le_refl _));exact⟨F3.box.c 3 rfl,(World.cell?_of_block (a:=⟨W.1.size,1,none⟩) hkm).trans P0.2.1,(World.cell?_of_block (a:=⟨W.1.size,2,none⟩) hkm).trans P0.2.2⟩))
  clear F2 M2;have PD:w2.drew.cell? ⟨p,3,none⟩=some (.int .i64 s.it)∧w2.drew.cell? ⟨W.1.size,1,none⟩=some (.int .i64 (k:Int))∧w2.drew.cell? ⟨W.1.size,2,none⟩=some (.int .i64 m3):=P0;go_wp2_with fail
  go_region_held3 (fun Y=>Y.cell? ⟨p,3,none⟩=some (.int .i64 s.it)∧Y.cell? ⟨W.1.size,1,none⟩=some (.int .i64 (k:Int))∧Y.cell? ⟨W.1.size,2,none⟩=some (.int .i64 m3))
   (first|(with_reducible exact P0)|(with_reducible exact PD)|(with_reducible exact P3))
   ((go_at_call 266;refine HPU.o.mono ?_;rintro e w3 ⟨⟨⟨v3,rfl⟩,hs3⟩,P3⟩))
  all_goals
   have HS:Zi (FStep lo p (.slice (some ⟨gb,goff,none⟩) ts.length gc) (.slice so src.length sc) (FO p bb xs ev fv uv) W w3 { s with bx:=s.bx.set k (el s.bx k++[(s.it,m3,0)]) }):=FStep.start h hB2.drew hs3;obtain⟨bb3,xs3,ev3,fv3,uv3,F3,_,_,_,hgo⟩:=HS.o.next;have r3:=F3.box.c 3 rfl;have f3:=F3.box.f 3 rfl;have hw3:IntKind.i64.wrap (s.it+1)=s.it+1:=by rw[IntKind.wrap_i64];omega
   have HN:=Zd (hgo w3 _ _ (Below.refl _ _) (F3.putIt (s.it+1)));clear hgo F3 HS hs3 P0 PD P3 HPU;dsimp only at r3;go_wp2;go_ret;rw[HR.o];exact⟨rfl,HN.o⟩
theorem stepR_at{gs:List PNode}{s:PP}{k:Nat}{t1 t2 t3:Int}{r:List (Int×Int×Int)}{out:List Int}{fl ok:Bool}(hk:k<s.bx.length)(hbx:el s.bx k=(t1,t2,t3)::r)(hA:Ky gs k t2=(out,fl,ok)) :
  Qk gs s (k:Int)=if fl=true then(0,Kw s k t1 t2 t3 r)else if blkP gs s.bx k (out.length:Int)=true then(6,s)else(0,Zu gs k t1 out { s with bx:=s.bx.set k r }):=by
 rw[Qk,if_pos ⟨by omega,by omega⟩,Int.toNat_natCast,hbx];dsimp only;rw[hA]
theorem step_any(lo:Nat)(W:World)(p bb gb goff gc:Nat)(ts:List LNode)(sv:Value)(xs:List Value)(ev fv uv:Value)(s:PP)(m1 m2 m3:Int)(h:Flow lo W p bb (.slice (some ⟨gb,goff,none⟩) ts.length gc) sv xs ev fv uv s)(hn:s.bx.length=ts.length)(hz:DIn Ja lo W (some ⟨gb,goff,none⟩) ts)(hE:EdgesIn (ts.map Zz))(hcap:∀j,j<ts.length→0≤Wa (ts.map Zz) j∧Wa (ts.map Zz) j≤1000)(ht:Zs s.bx+s.fa.length+100≤100000)(hem:s.em.length+100≤1000000)(hfu:s.fu.length≤100)(h0:0≤s.ti)(h1:s.ti≤1000000)(htr:∀k t1 t2 t3 r,el s.bx k=(t1,t2,t3)::r→0≤t3∧t3≤1000) :
  Calls prog 208 #[.pointer (some ⟨p,0,none⟩),.agg #[.int .i64 m1,.int .i64 m2,.int .i64 m3]] W fun e W'=>e=.returned (.int .i64 (Qk (ts.map Zz) s m2).1)∧FStep lo p (.slice (some ⟨gb,goff,none⟩) ts.length gc) sv (FO p bb xs ev fv uv) W W' (Qk (ts.map Zz) s m2).2:=by
 have hb0:=Zk W (.cells #[.int .i64 m1,.int .i64 m2,.int .i64 m3] 127);have hlo:lo≤W.1.size:=Nat.le_of_lt (Nat.lt_of_le_of_lt h.lop h.box.size);have F0:=h.later hb0;have hp:=h.box.size;obtain⟨V,hV⟩:=nmd (W.alloc (.cells #[.int .i64 m1,.int .i64 m2,.int .i64 m3] 127));rw[←hV]at hb0 F0;have HF0:=Zd F0;have HB0:=Zd hb0;have HV:=Zd hV;have M0:=Bx.new (w:=W) [.int .i64 m1,.int .i64 m2,.int .i64 m3] 127 rfl;rw[←hV]at M0;have b1:=M0.c 1 rfl;have hfc:=Ri lo V p bb (some ⟨gb,goff,none⟩) gc sv xs ev fv uv s m2 (by rw[hn];exact F0);have HFC:=Zd hfc;clear hfc
 by_cases hin:0≤m2∧m2<s.bx.length
 ·obtain⟨k,rfl⟩:∃k:Nat,m2=(k:Int):=⟨m2.toNat,by omega⟩;have hk:k<s.bx.length:=by omega
  cases hbx:el s.bx k with
  |nil =>
   have HR:Zi (Qk (ts.map Zz) s (k:Int)=(5,s)):=by rw[Zi,Qk,if_pos hin,Int.toNat_natCast,hbx]
   have h5:Xf s (k:Int)=5:=by rw[Xf,if_pos hin,Int.toNat_natCast,hbx];rfl
   rw[h5]at HFC;clear F0 hin h5 hV hb0 M0;go_enter func208,ntmps208;go_wp2_with fail;rw[←HV.o];refine HFC.o.mono ?_;rintro e w2 ⟨rfl,hw2⟩;rw[hw2];clear hw2 w2
   go_wp2;go_ret;rw[HR.o];exact⟨rfl,FStep.same h HB0.o⟩
  |cons t r =>
   obtain⟨t1,t2,t3⟩:=t;have hkt:k<ts.length:=by omega
   have h5:Xf s (k:Int)=0:=by rw[Xf,if_pos hin,Int.toNat_natCast,hbx];rfl
   rw[h5]at HFC;obtain⟨ho,hc,hsl,hcn,hFr⟩:=F0.hnd.slice hk;rw[hbx]at hsl hFr;obtain⟨g,rfl,hg1,hg2,hg3,hgo⟩:=hFr.at (by simp);simp only[List.length_cons]at hsl;have c5:=F0.box.c 5 rfl;have c0:=F0.box.c 0 rfl;have ck:=(F0.head hk).1;rw[hsl]at ck;have hki:(k:Int)<(s.bx.length:Int):=by omega
   have hkg:(k:Int)<(ts.length:Int):=by omega
   have hr1:(0:Int)<((r.length+1:Nat):Int):=by omega
   obtain⟨b0,off0,e0,hbl,hcs⟩:=Ub hFr.in (k:=0) (by simp)
   simp at e0
   obtain⟨rfl,rfl⟩:=e0;obtain⟨d0,d1,d2⟩:=hcs 0 (by simp);have P0:V.cell? ⟨p,5,none⟩=some (.slice (some ⟨bb,0,none⟩) s.bx.length s.bx.length)∧V.cell? ⟨W.1.size,1,none⟩=some (.int .i64 (k:Int))∧V.cell? ⟨bb,k,none⟩=some (.slice (some ⟨g,0,none⟩) (r.length+1) hc)∧V.cell? ⟨g,0,none⟩=some (.int .i64 t1)∧V.cell? ⟨g,1,none⟩=some (.int .i64 t2)∧V.cell? ⟨g,2,none⟩=some (.int .i64 t3):=⟨c5,b1,ck,d0,d1,d2⟩;have hn1:=World.new_ne V ⟨p,5,none⟩ c5;have hn2:=World.new_ne V ⟨W.1.size,1,none⟩ b1;have hn3:=World.new_ne V ⟨bb,k,none⟩ ck;have hn4:=World.new_ne V ⟨g,0,none⟩ d0;have HM0:=Zd M0;obtain⟨b9,off9,e9,hb9,hc9⟩:=Qw hz.1 hkt;obtain⟨rfl,rfl⟩:gb=b9∧goff=off9:=by simp at e9;exact e9
   obtain⟨_,c1,c2,c3,_,_⟩:=hc9 k hkt;have hst:Ky (ts.map Zz) k t2=Lb (el ts k).2.1 (el ts k).2.2.1 (el ts k).2.2.2.1 t2:=by rw[Ky,Jz hkt];rfl
   obtain⟨⟨nm,kd,sa,sb,cp,⟨nxo,nxc,nx⟩⟩,ex⟩:∃v,v=el ts k:=⟨_,rfl⟩;rw[←ex]at c1 c2 c3 hst;dsimp only at c1 c2 c3 hst;have HAP:=Bk kd sa sb t2;have hol:=Ru kd sa sb t2
   rcases hA:Lb kd sa sb t2 with⟨out,fl,ok⟩
   rw[hA]at hst HAP hol;dsimp only at hol;have HRS:=Zd (stepR_at hk hbx hst);have HAPP:=Zd HAP;have HC1:=Zd (And.intro c1 (And.intro c2 c3));clear ex hc9 e9 hst HAP hA c1 c2 c3;have HP0:=Zd P0;clear F0 hin h5 hV hb0 M0 ck d0 d1 d2 hcs hFr c0 c5;go_enter func208,ntmps208;go_wp2_with fail;rw[←HV.o];refine HFC.o.mono ?_;rintro e w2 ⟨rfl,hw2⟩;rw[hw2];clear hw2 w2 HFC
   go_wp2_with fail
   go_region_held3 (fun Y=>Y.cell? ⟨p,5,none⟩=some (.slice (some ⟨bb,0,none⟩) s.bx.length s.bx.length)∧Y.cell? ⟨W.1.size,1,none⟩=some (.int .i64 (k:Int))∧Y.cell? ⟨bb,k,none⟩=some (.slice (some ⟨g,0,none⟩) (r.length+1) hc)∧Y.cell? ⟨g,0,none⟩=some (.int .i64 t1)∧Y.cell? ⟨g,1,none⟩=some (.int .i64 t2)∧Y.cell? ⟨g,2,none⟩=some (.int .i64 t3))
    (first|(with_reducible exact P0)|go_keep) (fail)
   rename_i hHeld;clear hHeld;obtain⟨X,hX⟩:=nmd ((V.alloc (.cells #[.int .i64 t1,.int .i64 t2,.int .i64 t3] 163)).drew);rw[←hX];have hbX:Below V.1.size V X:=by rw[hX];exact(Zk _ _).drew
   have TX:Bx X V.1.size [.int .i64 t1,.int .i64 t2,.int .i64 t3]:=by rw[hX];exact(Bx.new [.int .i64 t1,.int .i64 t2,.int .i64 t3] _ rfl).drew
   have hBX:Below W.1.size W X:=HB0.o.trans (hbX.mono HB0.o.size);have hVW:W.1.size≤V.1.size:=HB0.o.size;have hVX:V.1.size<X.1.size:=TX.size;have HS:Zi (∀Y,Below X.1.size X Y→Y.cell? ⟨p,0,none⟩=some (.slice (some ⟨gb,goff,none⟩) ts.length gc)∧Y.cell? ⟨W.1.size,1,none⟩=some (.int .i64 (k:Int))∧Y.cell? ⟨gb,goff+k*6+1,none⟩=some (.int .i64 kd)∧Y.cell? ⟨gb,goff+k*6+2,none⟩=some (.int .i64 sa)∧Y.cell? ⟨gb,goff+k*6+3,none⟩=some (.int .i64 sb)∧Y.cell? ⟨V.1.size,1,none⟩=some (.int .i64 t2)):=fun Y hY=>by
    have hBY:=hBX.trans (hY.mono hBX.size);have F:=h.later hBY;have M:=HM0.o.later (hbX.trans (hY.mono hbX.size));have T:=TX.later hY;exact⟨F.box.c 0 rfl,M.c 1 rfl,(hBY.cell (p:=⟨gb,goff+k*6+1,none⟩) (by dsimp only;omega)).trans HC1.o.1,(hBY.cell (p:=⟨gb,goff+k*6+2,none⟩) (by dsimp only;omega)).trans HC1.o.2.1,(hBY.cell (p:=⟨gb,goff+k*6+3,none⟩) (by dsimp only;omega)).trans HC1.o.2.2,T.c 1 rfl⟩
   have PU:=HS.o X (Below.refl _ _);have PE:=HS.o X.drew (Below.refl _ _).drew;have HAC:=Zd (HAPP.o X.drew);have HBX:=Zd hBX;have HTX:=Zd TX;have HbX:=Zd hbX;clear hX hbX TX hBX P0 b1 HAPP;go_wp2_with fail
   go_region_held3 (fun Y=>Y.cell? ⟨p,0,none⟩=some (.slice (some ⟨gb,goff,none⟩) ts.length gc)∧Y.cell? ⟨W.1.size,1,none⟩=some (.int .i64 (k:Int))∧Y.cell? ⟨gb,goff+k*6+1,none⟩=some (.int .i64 kd)∧Y.cell? ⟨gb,goff+k*6+2,none⟩=some (.int .i64 sa)∧Y.cell? ⟨gb,goff+k*6+3,none⟩=some (.int .i64 sb)∧Y.cell? ⟨V.1.size,1,none⟩=some (.int .i64 t2))
    (first|(with_reducible exact PU)|(with_reducible exact PE)|(with_reducible exact P3))
    ((go_at_call 237;refine HAC.o.mono ?_;rintro e w3 ⟨⟨o,c,rfl,hoc,hfr⟩,hb3⟩;have P3:=HS.o w3 ((Below.refl _ _).drew.trans hb3)))
   have B3:Below W.1.size W w3:=HBX.o.trans ((((Below.refl _ _).drew).trans hb3).mono HBX.o.size);have F3:=h.later B3;have q1:=P3.2.1;have hX3:X.1.size≤w3.1.size:=hb3.size;have T3:=HTX.o.later (((Below.refl _ _).drew).trans hb3);have M3:=HM0.o.later (HbX.o.trans ((((Below.refl _ _).drew).trans hb3).mono HbX.o.size));have hmany:s.bx.length≤10:=by have:=hE.many;rw[List.length_map]at this;omega
   have HM3:=Zd M3;have HT3:=Zd T3;have HF3:=Zd F3;have HB3:=Zd B3;have HFR:=Zd hfr;clear PU PE P3 HS HAC M3 T3 F3 B3 hfr hb3
   try dsimp only
   cases fl
   case true =>
    have HRf:Zi (Qk (ts.map Zz) s (k:Int)=(0,Kw s k t1 t2 t3 r)):=HRS.o.trans (if_pos rfl);have hb9:=htr k t1 t2 t3 r hbx;have HFF:=Zd (Rl lo w3 p bb _ sv xs ev fv uv s k t1 t2 t3 r HF3.o hk hbx hmany (by omega) hfu h0 h1 hb9.1 hb9.2);go_wp2_with fail;refine HFF.o.mono ?_;rintro e w4 ⟨⟨v4,rfl⟩,hs4⟩;have HS4:=Zd (FStep.start h HB3.o hs4);clear hs4;go_wp2;go_ret;rw[HRf.o];exact⟨rfl,HS4.o⟩
   case false =>
    have HIB:=Zd (isBlocked_any lo w3 p bb gb goff gc ts sv xs ev fv uv s k (out.length:Int) HF3.o hn hkt (Nat.le_trans hlo HB3.o.size) (hz.below Zf (HB3.o.mono hlo)) hE hcap (by omega));have HR1:=Zd (HRS.o.trans (if_neg (by simp)))
    rcases hbk:blkP (ts.map Zz) s.bx k (out.length:Int)with _|_
    case true =>
     rw[hbk]at HIB;go_wp2_with fail;refine HIB.o.mono ?_;rintro e w4 ⟨rfl,hb4⟩;have HB4:=Zd (HB3.o.trans (hb4.mono HB3.o.size));clear hb4;go_wp2;go_ret;rw[HR1.o,if_pos hbk];exact⟨rfl,FStep.same h HB4.o⟩
    case false =>
     rw[hbk]at HIB;have HR2:=Zd (HR1.o.trans (if_neg (by rw[hbk];simp)));clear HR1 HRS hbk;go_wp2_with fail;refine HIB.o.mono ?_;rintro e w4 ⟨rfl,hb4⟩;have HB4:=Zd (HB3.o.trans (hb4.mono HB3.o.size));have HM4:=Zd (HM3.o.later hb4);have HT4:=Zd (HT3.o.later hb4);have q4:=HM4.o.c 1 rfl;have h34:=hb4.size;have Hb4:=Zd hb4;have HTK:=Zd (take_any lo w4 p bb _ sv xs ev fv uv s k t1 t2 t3 r (h.later HB4.o) hk hbx (by omega));have hs0:=Jb (ls:=s.bx) (k:=k) r hk;rw[hbx,List.length_cons]at hs0;clear hb4 HIB q1 HF3;go_wp2_with fail;refine HTK.o.mono ?_;rintro e w5 ⟨rfl,hs5⟩;obtain⟨s1,hs1⟩:∃s1:PP,s1={ s with bx:=s.bx.set k r }:=⟨_,rfl⟩;rw[←hs1]at hs5 HR2;have e1:s1.bx.length=ts.length:=by rw[hs1];exact(List.length_set ..).trans hn
     have e2:Zs s1.bx+1=Zs s.bx:=by rw[hs1];show Zs (s.bx.set k r)+1=_;omega
     have e3:s1.em.length=s.em.length:=by rw[hs1]
     have HS5:=Zd hs5;clear hs5 HTK hs1;go_wp2
     go_loopw [63] (fun i wr=>∃m:Nat,m≤out.length∧i=.int .i64 (m:Int)∧Zi (FStep lo p (.slice (some ⟨gb,goff,none⟩) ts.length gc) sv (FO p bb xs ev fv uv) w4 wr (Zu (ts.map Zz) k t1 (out.take m) s1))) (fun i _=>out.length-(intOf i).toNat)
     case atStart=>exact⟨0,Nat.zero_le _,rfl,HS5⟩
     case round =>
      obtain⟨m,hm,rfl,hS⟩:=hrel
      by_cases hlt:m<out.length
      ·obtain⟨bb2,xs2,ev2,fv2,uv2,F2,hk2,hB2,_,hgo⟩:=hS.o.next;have km:=hk2 W.1.size HM4.o.size (h.far (Nat.le_refl _));have kt:=hk2 V.1.size HT4.o.size (h.far hVW);have qm1:=(World.cell?_of_block (a:=⟨W.1.size,1,none⟩) km).trans (HM4.o.c 1 rfl);have t0:=(World.cell?_of_block (a:=⟨V.1.size,0,none⟩) kt).trans (HT4.o.c 0 rfl);obtain⟨g2,eg2,hg4,hg5,hg6,_⟩:=HFR.o.at (by omega);obtain⟨nb,noff,eo,hnb,hnc⟩:=Zo HFR.o.in hlt;obtain⟨rfl,rfl⟩:g2=nb∧0=noff:=by rw[eg2]at eo;simp at eo;exact eo
       have kn:=hk2 g2 (by omega) (h.far (Nat.le_trans hVW (Nat.le_trans (Nat.le_of_lt hVX) hg4)));have cm:=(World.cell?_of_block (a:=⟨g2,0+m,none⟩) kn).trans ((Hb4.o.cell (p:=⟨g2,0+m,none⟩) hnb).trans (hnc m hlt));rw[Nat.zero_add]at cm;have HT:=Zd (Zy hlt);have a1:=Wx (ts.map Zz) k t1 (out.take m) s1;have a2:=Ys t1 (by rw[List.length_map];exact hkt) hE (out.take m) s1 (by rw[List.length_map];exact e1);have a3:=Nj (ts.map Zz) k t1 (out.take m) s1;have hlm:(out.take m).length=m:=by simp;omega
       have HLD:=Zd (lead_any lo wr p bb2 gb goff gc ts sv xs2 ev2 fv2 uv2 _ k t1 (el out m) F2 (a1.trans e1) hkt (hz.below Zf ((HB4.o.mono hlo).trans hB2)) hE (by omega) (by omega));have HN:Zi (∀w2,FStep lo p (.slice (some ⟨gb,goff,none⟩) ts.length gc) sv (FO p bb2 xs2 ev2 fv2 uv2) wr w2 (Kb (ts.map Zz) (Zu (ts.map Zz) k t1 (out.take m) s1) k t1 (el out m))→Zi (FStep lo p (.slice (some ⟨gb,goff,none⟩) ts.length gc) sv (FO p bb xs ev fv uv) w4 w2 (Zu (ts.map Zz) k t1 (out.take (m+1)) s1))):=fun w2 h2=>by
        rw[HT.o,Ga];exact hgo _ _ _ (Below.refl _ _) h2
       subst eg2;clear hgo F2 hS a1 a2 a3 hlm km kt kn hk2 hnc q4;go_wp2_with fail;refine HLD.o.mono ?_;rintro e w6 ⟨⟨u6,rfl⟩,h6⟩;have H6:=HN.o w6 h6;clear h6 HN HLD;go_wp2;go_roundw
       case rel=>exact⟨m+1,by omega,by go_num,H6⟩
       case measure=>simp[intOf];omega
      ·obtain rfl:m=out.length:=by omega
       rw[List.take_length]at hS;go_wp2;go_ret;rw[HR2.o];exact⟨rfl,FStep.start h HB4.o hS.o⟩
 ·have HR:Zi (Qk (ts.map Zz) s m2=(2,s)):=by rw[Zi,Qk,if_neg hin]
  have h5:Xf s m2=2:=by rw[Xf,if_neg hin]
  rw[h5]at HFC;clear F0 hin h5 hV hb0 M0;go_enter func208,ntmps208;go_wp2_with fail;rw[←HV.o];refine HFC.o.mono ?_;rintro e w2 ⟨rfl,hw2⟩;rw[hw2];clear hw2 w2
  go_wp2;go_ret;rw[HR.o];exact⟨rfl,FStep.same h HB0.o⟩
theorem Tryz.entersM1:∀args w,(callFunc 247 args).run prog w=.ok (.enter 247 args) w:=enters_of func247 (by kernel_rfl) rfl
theorem Tryz.entersM2:∀args w,(callFunc 208 args).run prog w=.ok (.enter 208 args) w:=enters_of func208 (by kernel_rfl) rfl
theorem Tryz.entersM3:∀args w,(callFunc 248 args).run prog w=.ok (.enter 248 args) w:=enters_of func248 (by kernel_rfl) rfl
theorem Tryz.entersM4:∀args w,(callFunc 249 args).run prog w=.ok (.enter 249 args) w:=enters_of func249 (by kernel_rfl) rfl
theorem Tryz.entersM5:∀args w,(callFunc 250 args).run prog w=.ok (.enter 250 args) w:=enters_of func250 (by kernel_rfl) rfl
theorem Tryz.entersM6:∀args w,(callFunc 251 args).run prog w=.ok (.enter 251 args) w:=enters_of func251 (by kernel_rfl) rfl
theorem FStep.kept{lo:Nat}{W V W':World}{p bb:Nat}{gv sv:Value}{xs:List Value}{ev fv uv:Value}{s s2:PP}(h:FStep lo p gv sv (FO p bb xs ev fv uv) V W' s2)(hF:Flow lo W p bb gv sv xs ev fv uv s):∀b,W.1.size≤b→b<V.1.size→W'.heap[b]? = V.heap[b]? := fun b h1 h2=>by
 obtain⟨_,_,_,_,k⟩:=h;exact k b h2 (hF.far h1)
theorem do_bad(m1 m2 m3:Int)(hbad:m1<1∨6<m1)(hm:m1≤9223372036854775807)(W:World)(p:Nat) :
  Calls prog 173 #[.pointer (some ⟨p,0,none⟩),.agg #[.int .i64 m1,.int .i64 m2,.int .i64 m3]] W fun e w'=>e=.returned (.int .i64 1)∧Below W.1.size W w':=by
 have hb0:=Zk W (.cells #[.int .i64 m1,.int .i64 m2,.int .i64 m3] 127);obtain⟨V,hV⟩:=nmd (W.alloc (.cells #[.int .i64 m1,.int .i64 m2,.int .i64 m3] 127));rw[←hV]at hb0;have HV:=Zd hV;have M0:=Bx.new (w:=W) [.int .i64 m1,.int .i64 m2,.int .i64 m3] 127 rfl;rw[←hV]at M0;clear hV
 by_cases hlow:m1<1
 ·have hd:decide (m1<1)=true:=by simpa using hlow
  clear hbad;go_enter func173,ntmps173;go_wp2_with fail;rw[←HV.o];refine(Wc V).mono ?_;rintro e w2 ⟨rfl,hX,hb2⟩;have q0:=(M0.later hb2).c 0 rfl;have hB2:Below W.1.size W w2:=hb0.trans (hb2.mono hb0.size);clear hX hb2 M0;go_wp2;go_ret;exact⟨rfl,hB2⟩
 ·have hd:decide (m1<1)=false:=by simpa using hlow
  have hw1:IntKind.i64.wrap (m1-1)=m1-1:=by rw[IntKind.wrap_i64];omega
  have hd2:decide ((6:Int)≤m1-1)=true:=by simp;omega
  clear hbad;go_enter func173,ntmps173;go_wp2_with fail;rw[←HV.o];refine(Wc V).mono ?_;rintro e w2 ⟨rfl,hX,hb2⟩;have q0:=(M0.later hb2).c 0 rfl;have hB2:Below W.1.size W w2:=hb0.trans (hb2.mono hb0.size);clear hX hb2 M0;go_wp2;go_ret;exact⟨rfl,hB2⟩
theorem do_any(lo:Nat)(W:World)(p bb gb goff gc:Nat)(ts:List LNode)(so:Option Addr)(sc:Nat)(src:List Int)(xs:List Value)(ev fv uv:Value)(s:PP)(m1 m2 m3:Int)(h:Flow lo W p bb (.slice (some ⟨gb,goff,none⟩) ts.length gc) (.slice so src.length sc) xs ev fv uv s)(hz:DIn Ja lo W (some ⟨gb,goff,none⟩) ts)(hI:kI.In lo W so src)(hrs:∀x∈src,∃j:Nat,j<ts.length∧x=(j:Int))(hsl:src.length≤1000)(hE:EdgesIn (ts.map Zz))(hcap:∀j,j<ts.length→0≤Wa (ts.map Zz) j∧Wa (ts.map Zz) j≤1000)(hB:RawP ts.length s)(hm:m1≤9223372036854775807) :
  Calls prog 173 #[.pointer (some ⟨p,0,none⟩),.agg #[.int .i64 m1,.int .i64 m2,.int .i64 m3]] W fun e W'=>e=.returned (.int .i64 (doR (ts.map Zz) src s m1 m2 m3).1)∧FStep lo p (.slice (some ⟨gb,goff,none⟩) ts.length gc) (.slice so src.length sc) (FO p bb xs ev fv uv) W W' (doR (ts.map Zz) src s m1 m2 m3).2:=by
 have hlo:lo≤W.1.size:=Nat.le_of_lt (Nat.lt_of_le_of_lt h.lop h.box.size);have hN:=hB.len;have hmany:s.bx.length≤10:=by have:=hE.many;rw[List.length_map]at this;omega
 have h1:=hB.tot;have h2:=hB.em;have h3:=hB.fu;have h4:=hB.it1;have htr:∀k t1 t2 t3 r,el s.bx k=(t1,t2,t3)::r→0≤t3∧t3≤1000:=fun k t1 t2 t3 r hr=>by
  have:=hB.tr k (t1,t2,t3) (by rw[hr];simp);dsimp only at this;omega
 by_cases k1:m1=1
 ·subst k1;rw[show doR (ts.map Zz) src s 1 m2 m3=Qp (ts.map Zz) src s m2 m3 from by simp[doR]];exact do_at _ Tryz.entersM1 1 0 (by simp) rfl W p m2 m3 _ (fun W'=>FStep lo p (.slice (some ⟨gb,goff,none⟩) ts.length gc) (.slice so src.length sc) (FO p bb xs ev fv uv) W W' (Qp (ts.map Zz) src s m2 m3).2) fun V hV =>
   (offer_any lo V p bb gb goff gc ts so sc src xs ev fv uv s 1 m2 m3 (h.later hV) hN (hz.below Zf (hV.mono hlo)) (hI.below (hV.mono hlo)) hrs hsl hcap (by omega) hB.it0 (by omega)).mono fun e w' hh=>⟨hh.1,FStep.start h hV hh.2,hh.2.kept h⟩
 by_cases k2:m1=2
 ·subst k2;rw[show doR (ts.map Zz) src s 2 m2 m3=Qk (ts.map Zz) s m2 from by simp[doR]];exact do_at _ Tryz.entersM2 2 1 (by simp) rfl W p m2 m3 _ (fun W'=>FStep lo p (.slice (some ⟨gb,goff,none⟩) ts.length gc) (.slice so src.length sc) (FO p bb xs ev fv uv) W W' (Qk (ts.map Zz) s m2).2) fun V hV =>
   (step_any lo V p bb gb goff gc ts _ xs ev fv uv s 2 m2 m3 (h.later hV) hN (hz.below Zf (hV.mono hlo)) hE hcap (by omega) (by omega) (by omega) hB.ti0 hB.ti1 htr).mono fun e w' hh=>⟨hh.1,FStep.start h hV hh.2,hh.2.kept h⟩
 by_cases k3:m1=3
 ·subst k3;rw[show doR (ts.map Zz) src s 3 m2 m3=Jn s m2 from by simp[doR]];refine do_at _ Tryz.entersM3 3 2 (by simp) rfl W p m2 m3 _ (fun W'=>FStep lo p (.slice (some ⟨gb,goff,none⟩) ts.length gc) (.slice so src.length sc) (FO p bb xs ev fv uv) W W' (Jn s m2).2) fun V hV=>?_
  have hf:=fault_any lo V p bb (some ⟨gb,goff,none⟩) gc (.slice so src.length sc) xs ev fv uv s 3 m2 m3 (by rw[hN];exact h.later hV) hmany (by omega) (by omega) hB.ti0 hB.ti1 htr;rw[hN]at hf;exact hf.mono fun e w' hh=>⟨hh.1,FStep.start h hV hh.2,hh.2.kept h⟩
 by_cases k4:m1=4
 ·subst k4;rw[show doR (ts.map Zz) src s 4 m2 m3=Xn s m3 from by simp[doR]];exact do_at _ Tryz.entersM4 4 3 (by simp) rfl W p m2 m3 _ (fun W'=>FStep lo p (.slice (some ⟨gb,goff,none⟩) ts.length gc) (.slice so src.length sc) (FO p bb xs ev fv uv) W W' (Xn s m3).2) fun V hV =>
   (tick_any lo V p bb _ _ xs ev fv uv s 4 m2 m3 (h.later hV) hB.ti0 hB.ti1).mono fun e w' hh=>⟨hh.1,FStep.start h hV hh.2,hh.2.kept h⟩
 by_cases k5:m1=5
 ·subst k5;rw[show doR (ts.map Zz) src s 5 m2 m3=Kr s from by simp[doR]];exact do_at _ Tryz.entersM5 5 4 (by simp) rfl W p m2 m3 _ (fun W'=>FStep lo p (.slice (some ⟨gb,goff,none⟩) ts.length gc) (.slice so src.length sc) (FO p bb xs ev fv uv) W W' (Kr s).2) fun V hV =>
   (drain_any lo V p bb _ _ xs ev fv uv s 5 m2 m3 (h.later hV)).mono fun e w' hh=>⟨hh.1,FStep.start h hV hh.2,hh.2.kept h⟩
 by_cases k6:m1=6
 ·subst k6;rw[show doR (ts.map Zz) src s 6 m2 m3=Kz s from by simp[doR]];exact do_at _ Tryz.entersM6 6 5 (by simp) rfl W p m2 m3 _ (fun W'=>FStep lo p (.slice (some ⟨gb,goff,none⟩) ts.length gc) (.slice so src.length sc) (FO p bb xs ev fv uv) W W' (Kz s).2) fun V hV =>
   (abort_any lo V p bb _ _ xs ev fv uv s 6 m2 m3 (h.later hV) hmany (by omega)).mono fun e w' hh=>⟨hh.1,FStep.start h hV hh.2,hh.2.kept h⟩
 have hR:doR (ts.map Zz) src s m1 m2 m3=(1,s):=by simp[doR,k1,k2,k3,k4,k5,k6]
 rw[hR];exact(do_bad m1 m2 m3 (by omega) hm W p).mono fun e w' hh=>⟨hh.1,FStep.same h hh.2⟩
def Pu(gs:List PNode)(src:List Int)(l:List (Int×Int×Int))(s:PP):List Int×PP :=
 l.foldl (fun a m=>(a.1++[(doR gs src a.2 m.1 m.2.1 m.2.2).1],(doR gs src a.2 m.1 m.2.1 m.2.2).2)) ([],s)
theorem Gs(gs:List PNode)(src:List Int)(l:List (Int×Int×Int))(m:Int×Int×Int)(s:PP) :
  Pu gs src (l++[m]) s=((Pu gs src l s).1++[(doR gs src (Pu gs src l s).2 m.1 m.2.1 m.2.2).1],(doR gs src (Pu gs src l s).2 m.1 m.2.1 m.2.2).2):=by
 rw[Pu,List.foldl_append];rfl
theorem playP_len(gs:List PNode)(src:List Int)(l:List (Int×Int×Int))(s:PP):∀n,n≤l.length→(Pu gs src (l.take n) s).1.length=n
 |0,_=>rfl
 |n+1,h=>by
  rw[Zy (by omega),Gs];simp only[List.length_append,List.length_singleton];rw[playP_len gs src l s n (by omega)]
theorem Mj{gs:List PNode}(src:List Int)(hE:EdgesIn gs)(l:List (Int×Int×Int)){s:PP}(h:BndP gs.length 0 s):∀n,n≤l.length→BndP gs.length n (Pu gs src (l.take n) s).2
 |0,_=>h
 |n+1,hn=>by
  rw[Zy (by omega),Gs];exact(Mj src hE l h n (by omega)).move hE _ _ _
theorem Flow.keep{lo:Nat}{W W':World}{p bb:Nat}{gv sv:Value}{xs:List Value}{ev fv uv:Value}{s:PP}(h:Flow lo W p bb gv sv xs ev fv uv s)(hs:W.1.size≤W'.1.size)(hk:∀b,FO p bb xs ev fv uv b→W'.heap[b]? = W.heap[b]?):Flow lo W' p bb gv sv xs ev fv uv s :=
 ⟨h.box.keep hs (hk p (.inl rfl)),h.hnd.keep (hk bb (.inr (.inl rfl))) (fun j hj b hb=>hk b (.inr (.inr (.inl ⟨j,by rw[h.hnd.len];exact hj,hb⟩)))),Za h.emo (fun b hb=>hk b (.inr (.inr (.inr (.inl hb))))),Za h.fao (fun b hb=>hk b (.inr (.inr (.inr (.inr (.inl hb)))))),Za h.fuo (fun b hb=>hk b (.inr (.inr (.inr (.inr (.inr hb)))))),h.lop,h.lob,h.pbb,h.px,h.pe,h.pf,h.pu⟩
def kMv:Kind (Int×Int×Int):=⟨127,124,3,fun t=>[.int .i64 t.1,.int .i64 t.2.1,.int .i64 t.2.2],fun _=>rfl,fun a v h=>by simp at h;rcases h with rfl|rfl|rfl <;> rfl⟩
theorem kMv_at{n:Nat}{W:World}{ao:Option Addr}{ts:List (Int×Int×Int)}(h:kMv.In n W ao ts){k:Nat}(hk:k<ts.length) :
  ∃b off,ao=some ⟨b,off,none⟩∧b<n∧∀j,j<ts.length→W.cell? ⟨b,off+j*3,none⟩=some (.int .i64 (el ts j).1)∧W.cell? ⟨b,off+j*3+1,none⟩=some (.int .i64 (el ts j).2.1)∧W.cell? ⟨b,off+j*3+2,none⟩=some (.int .i64 (el ts j).2.2):=by
 obtain⟨b,off,e,hb,hc⟩:=h.pos hk;exact⟨b,off,e,hb,fun j hj=>⟨hc j hj 0 (by decide),hc j hj 1 (by decide),hc j hj 2 (by decide)⟩⟩
theorem srcP_rng(gs:List PNode)(n:Nat):∀x∈Ke gs n,∃j:Nat,j<n∧x=(j:Int):=fun x hx=>by
 have h:=(List.mem_filter.1 hx).1;simp only[Qh,List.mem_map,List.mem_range]at h;obtain⟨j,hj,rfl⟩:=h;exact⟨j,hj,rfl⟩
structure GoodE(gs:List PNode):Prop where
 edg:EdgesIn gs
 cap:∀j,j<gs.length→3≤Wa gs j∧Wa gs j≤8
 once:∀a,a<gs.length→(nxP gs a).Nodup
 st:∀k,k<gs.length→Zg (el gs k).2.1 (el gs k).2.2.1 (el gs k).2.2.2.1=true
theorem Nk{gs:List PNode}(h:Qa gs=0):GoodE gs:=by
 obtain⟨hm,hbk,_⟩:=Jw h;refine⟨Nv (by omega) (hbk 4 (by omega)),fun j hj=>?_,fun a ha=>?_,fun k hk=>?_⟩
 ·have:=brk_at (hbk 3 (by omega)) hj;simp only[Kn,Int.toNat_natCast,Bool.or_eq_false_iff,decide_eq_false_iff_not]at this;rw[Wa];omega
 ·have:=brk_at (hbk 4 (by omega)) ha;simp only[Kn,Int.toNat_natCast]at this;have h2:Vm (nxP gs a) (gs.length:Int)=true:=by simpa[nxP]using this
  exact(Wz.1 h2).2
 ·have:=brk_at (hbk 2 (by omega)) hk;simp only[Kn,Int.toNat_natCast]at this
  simpa using this
theorem appR_val{k a b v:Int}:∀x∈(Lb k a b v).1,Ju x=true:=by
 intro x hx
 unfold Lb at hx
 split at hx
 ·rename_i h
  simp at h;exact Dx h.1 h.2 x hx
 ·cases hx
def VlB(bx:List (List (Int×Int×Int))):Prop:=∀k t,t∈el bx k→Ju t.2.1=true
theorem VlB.set{bx:List (List (Int×Int×Int))}(h:VlB bx)(k:Nat){x:List (Int×Int×Int)}(hx:∀t∈x,Ju t.2.1=true):VlB (bx.set k x):=fun j t ht=>by
 by_cases e:j=k
 ·subst e
  by_cases hj:j<bx.length
  ·rw[Zh hj]at ht;exact hx t ht
  ·rw[List.set_eq_of_length_le (by omega)]at ht;exact h j t ht
 ·rw[Zm e]at ht;exact h j t ht
theorem VlB.put{bx:List (List (Int×Int×Int))}(h:VlB bx)(k:Nat)(a b:Int)(hb:Ju b=true):VlB (bx.set k (el bx k++[(a,b,0)])):=h.set k fun t ht=>by
 rcases List.mem_append.1 ht with h1|h1
 ·exact h k t h1
 ·rw[List.mem_singleton.1 h1];exact hb
theorem VlB.puts(a b:Int)(hb:Ju b=true):∀(l:List Int){bx:List (List (Int×Int×Int))},VlB bx→VlB (Jk (a,b,0) bx l)
 | [],_,h=>h
 |x::r,_,h=>VlB.puts a b hb r (h.put x.toNat a b hb)
theorem el_clr(bx:List (List (Int×Int×Int)))(j:Nat):el (clr bx bx.length) j=[]:=by
 simp only[Go.Proofs.YtdacedbfnlkghaaGreatDoor.clr,el,List.drop_length,List.append_nil]
 by_cases hj:j<bx.length
 ·simp[hj]
 ·simp[hj];rfl
def CpB(gs:List PNode)(bx:List (List (Int×Int×Int))):Prop:=∀k,k<gs.length→((el bx k).length:Int)≤Wa gs k
theorem CpB.set{gs:List PNode}{bx:List (List (Int×Int×Int))}(h:CpB gs bx)(k:Nat){x:List (Int×Int×Int)}(hx:(x.length:Int)≤Wa gs k):CpB gs (bx.set k x):=fun j hj=>by
 by_cases e:j=k
 ·subst e
  by_cases hj2:j<bx.length
  ·rw[Zh hj2];exact hx
  ·rw[List.set_eq_of_length_le (by omega)];exact h j hj
 ·rw[Zm e];exact h j hj
theorem Fg(t:Int×Int×Int){j:Nat}:∀(l:List Int)(bx:List (List (Int×Int×Int))),(∀x∈l,x.toNat≠j)→el (Jk t bx l) j=el bx j
 | [],_,_=>rfl
 |y::r,bx,h=>by
  rw[Jk,Fg t r _ (fun x hx=>h x (List.mem_cons_of_mem _ hx)),Zm (fun e=>h y (by simp) e.symm)]
theorem Mq(t:Int×Int×Int){j:Nat}:∀(l:List Int)(bx:List (List (Int×Int×Int))),(∀x∈l,0≤x)→l.Nodup→(el (Jk t bx l) j).length≤(el bx j).length+(if(j:Int)∈l then 1 else 0)
 | [],_,_,_=>Nat.le_add_right _ _
 |y::r,bx,h,hn=>by
  have h1:=List.nodup_cons.1 hn;have hy:=h y (by simp);rw[Jk]
  by_cases e:y.toNat=j
  ·have hyj:y=(j:Int):=by omega
   rw[Fg t r _ (fun x hx e2=>h1.1 (by have:=h x (List.mem_cons_of_mem _ hx);rw[show y=x by omega];exact hx)),if_pos (by rw[hyj];simp),e]
   by_cases hj:j<bx.length
   ·rw[Zh hj];simp
   ·rw[List.set_eq_of_length_le (by omega)];omega
  ·have h2:=Mq t (j:=j) r (bx.set y.toNat (el bx y.toNat++[t])) (fun x hx=>h x (List.mem_cons_of_mem _ hx)) h1.2;rw[Zm (Ne.symm e)]at h2
   by_cases hm:(j:Int)∈r
   ·rw[if_pos hm]at h2;rw[if_pos (List.mem_cons_of_mem _ hm)];exact h2
   ·rw[if_neg hm]at h2
    omega
structure InvS(gs:List PNode)(s:PP):Prop where
 cap:CpB gs s.bx
 val:VlB s.bx
theorem InvS.abort{gs:List PNode}{s:PP}(hG:GoodE gs):InvS gs (Wh s) :=
 ⟨fun k hk=>by show((el (clr s.bx s.bx.length) k).length:Int)≤_;rw[el_clr];have:=(hG.cap k hk).1;simp only[List.length_nil];omega,fun k t ht=>by
  have ht2:t∈el (clr s.bx s.bx.length) k:=ht;rw[el_clr]at ht2;cases ht2⟩
theorem InvS.failT{gs:List PNode}{s:PP}(hG:GoodE gs)(h:InvS gs s):InvS gs (failT s):=by
 unfold Go.Proofs.YtdacedbfnlkghaaGreatDoor.failT
 split
 ·have a:=InvS.abort (s:=s) hG;exact⟨a.cap,a.val⟩
 ·exact⟨h.cap,h.val⟩
theorem InvS.fail{gs:List PNode}{s:PP}(hG:GoodE gs)(h:InvS gs s){k:Nat}{t1 t2 t3:Int}{r:List (Int×Int×Int)}(hk:k<gs.length)(hr:el s.bx k=(t1,t2,t3)::r):InvS gs (Kw s k t1 t2 t3 r):=by
 unfold Kw
 have hv:=h.val k (t1,t2,t3) (by rw[hr];simp);have hrr:∀t∈r,Ju t.2.1=true:=fun t ht=>h.val k t (by rw[hr];exact List.mem_cons_of_mem _ ht)
 have hc:=h.cap k hk;rw[hr]at hc;simp only[List.length_cons]at hc;refine InvS.failT hG ?_
 split
 ·exact⟨h.cap.set k (by omega),h.val.set k hrr⟩
 ·refine⟨h.cap.set k (by simp only[List.length_cons];exact hc),h.val.set k fun t ht=>?_⟩
  rcases List.mem_cons.1 ht with rfl|h1
  ·exact hv
  ·exact hrr t h1
theorem Mi(gs:List PNode)(k:Nat)(it:Int):∀(l:List Int)(s:PP),(∀v∈l,Ju v=true)→VlB s.bx→VlB (Zu gs k it l s).bx
 | [],_,_,h=>h
 |y::r,s,hl,h=>by
  rw[Zu];refine Mi gs k it r _ (fun v hv=>hl v (List.mem_cons_of_mem _ hv)) ?_
  unfold Kb;split
  ·exact h
  ·exact VlB.puts it y (hl y (by simp)) _ h
theorem Ml{gs:List PNode}{k:Nat}(it:Int)(h0:∀x∈nxP gs k,0≤x)(hn:(nxP gs k).Nodup):∀(l:List Int)(s:PP)(j:Nat),(el (Zu gs k it l s).bx j).length≤(el s.bx j).length+(if(j:Int)∈nxP gs k then l.length else 0)
 | [],s,j=>by rw[Zu];exact Nat.le_add_right _ _
 |y::r,s,j=>by
  have h1:=Ml it h0 hn r (Kb gs s k it y) j;rw[Zu];have h2:(el (Kb gs s k it y).bx j).length≤(el s.bx j).length+(if(j:Int)∈nxP gs k then 1 else 0):=by
   unfold Kb;split
   ·exact Nat.le_add_right _ _
   ·exact Mq _ _ _ h0 hn
  by_cases hm:(j:Int)∈nxP gs k
  ·rw[if_pos hm]at h1 h2 ⊢;simp only[List.length_cons];omega
  ·rw[if_neg hm]at h1 h2 ⊢
   omega
theorem InvS.step{gs:List PNode}{s:PP}(hG:GoodE gs)(h:InvS gs s)(hl:s.bx.length=gs.length)(m:Int):InvS gs (Qk gs s m).2:=by
 unfold Qk
 split
 ·rename_i hin;have hk:m.toNat<s.bx.length:=by omega
  have hkg:m.toNat<gs.length:=by omega
  split
  ·exact h
  ·rename_i t r hr;obtain⟨t1,t2,t3⟩:=t
   split
   ·exact h.fail hG hkg hr
   ·split
    ·exact h
    ·rename_i hb;have hrr:∀t∈r,Ju t.2.1=true:=fun t ht=>h.val m.toNat t (by rw[hr];exact List.mem_cons_of_mem _ ht)
     refine⟨fun j hj=>?_,Mi gs _ _ _ _ (fun v hv=>appR_val v hv) (h.val.set _ hrr)⟩;have h0:∀x∈nxP gs m.toNat,0≤x:=fun x hx=>by obtain⟨a,_,rfl⟩:=hG.edg.rng _ hkg x hx;omega
     have h1:=Ml (gs:=gs) (k:=m.toNat) t1 h0 (hG.once _ hkg) (Ky gs m.toNat t2).1 { s with bx:=s.bx.set m.toNat r } j;have h2:(el (s.bx.set m.toNat r) j).length≤(el s.bx j).length:=by
      by_cases e:j=m.toNat
      ·rw[e,Zh hk,hr];simp
      ·rw[Zm e];exact Nat.le_refl _
     have hc:=h.cap j hj;dsimp only at h1 ⊢
     by_cases hm:(j:Int)∈nxP gs m.toNat
     ·rw[if_pos hm]at h1;have h3:¬Wa gs j-((el s.bx j).length:Int)<((Ky gs m.toNat t2).1.length:Int):=fun hlt=>hb (by
       unfold blkP
       rw[List.any_eq_true];exact⟨(j:Int),hm,by rw[Int.toNat_natCast];exact decide_eq_true hlt⟩)
      omega
     ·rw[if_neg hm]at h1
      omega
 ·exact h
theorem InvS.fault{gs:List PNode}{s:PP}(hG:GoodE gs)(h:InvS gs s)(hl:s.bx.length=gs.length)(m:Int):InvS gs (Jn s m).2:=by
 unfold Jn
 split
 ·rename_i hin
  split
  ·exact h
  ·rename_i t r hr;exact h.fail hG (by omega) hr
 ·exact h
theorem InvS.offer{gs:List PNode}{src:List Int}{s:PP}(h:InvS gs s)(m v:Int):InvS gs (Qp gs src s m v).2:=by
 unfold Qp
 split
 ·rename_i hv
  split
  ·exact h
  ·split
   ·exact h
   ·rename_i hr;refine⟨h.cap.set _ ?_,h.val.put _ _ _ hv.2⟩;rw[List.length_append,List.length_singleton];omega
 ·exact h
theorem InvS.move{gs:List PNode}{src:List Int}{s:PP}(hG:GoodE gs)(h:InvS gs s)(hl:s.bx.length=gs.length)(m1 m2 m3:Int):InvS gs (doR gs src s m1 m2 m3).2:=by
 unfold doR
 split
 ·exact h.offer m2 m3
 ·split
  ·exact h.step hG hl m2
  ·split
   ·exact h.fault hG hl m2
   ·split
    ·unfold Xn
     split
     ·exact h
     ·split
      ·exact h
      ·exact⟨h.cap,h.val⟩
    ·split
     ·unfold Kr
      split
      ·exact h
      ·exact⟨h.cap,h.val⟩
     ·split
      ·unfold Kz
       split
       ·exact h
       ·exact InvS.abort hG
      ·exact h
theorem pp0_inv{gs:List PNode}(hG:GoodE gs):InvS gs (pp0 gs.length):=by
 have e:∀k,el (pp0 gs.length).bx k=[]:=fun k=>by
  show el (List.replicate gs.length ([]:List (Int×Int×Int))) k=[]
  by_cases hk:k<gs.length
  ·simp[el,hk]
  ·simp[el,hk];rfl
 exact⟨fun k hk=>by rw[e];have:=(hG.cap k hk).1;simp only[List.length_nil];omega,fun k t ht=>by rw[e]at ht;cases ht⟩
theorem playP_inv{gs:List PNode}(src:List Int)(hG:GoodE gs)(l:List (Int×Int×Int)){s:PP}(h:InvS gs s)(hB:BndP gs.length 0 s):∀n,n≤l.length→InvS gs (Pu gs src (l.take n) s).2
 |0,_=>h
 |n+1,hn=>by
  rw[Zy (by omega),Gs];exact(playP_inv src hG l h hB n (by omega)).move hG ((Mj src hG.edg l hB n (by omega)).len) _ _ _
end Go.Proofs.YtdacedbfnlkghaaGreatDoor