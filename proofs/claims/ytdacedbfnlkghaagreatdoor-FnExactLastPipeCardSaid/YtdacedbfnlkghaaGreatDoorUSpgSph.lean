/- The specification's offer. The specification's moves: offers, steps, faults. No conditions but those written. -/
import Derived.Test.YtdacedbfnlkghaaGreatDoorUSpf
namespace Go.Proofs.YtdacedbfnlkghaaGreatDoor
set_option maxHeartbeats 8000000
set_option maxRecDepth 100000
open Go.RowKit Go.Proofs.Tryz
theorem offerS_any(lo:Nat)(W:World)(p bb gb goff gc:Nat)(ts:List LNode)(xs:List Value)(ev fv uv:Value)(s:PP)(m1 m2 m3:Int)(h:FlowS lo W p bb (.slice (some ⟨gb,goff,none⟩) ts.length gc) xs ev fv uv s)(hn:s.bx.length=ts.length)(hz:DIn Ja lo W (some ⟨gb,goff,none⟩) ts)(hG:GoodE (ts.map Zz))(hI:InvS (ts.map Zz) s)(ht:Zs s.bx≤100000)(hi0:0≤s.it)(hi1:s.it≤1000000) :
  Calls prog 177 #[.pointer (some ⟨p,0,none⟩),.agg #[.int .i64 m1,.int .i64 m2,.int .i64 m3]] W fun e W'=>e=.returned (.int .i64 (Qp (ts.map Zz) (Ke (ts.map Zz) ts.length) s m2 m3).1)∧FStepS lo p (.slice (some ⟨gb,goff,none⟩) ts.length gc) (FO p bb xs ev fv uv) W W' (Qp (ts.map Zz) (Ke (ts.map Zz) ts.length) s m2 m3).2:=by
 have hb0:=Zk W (.cells #[.int .i64 m1,.int .i64 m2,.int .i64 m3] 127);have hlo:lo≤W.1.size:=h.lo_le;have F0:=h.later hb0;have hp:=h.box.size;have hbb:=h.hnd.size;have hsl:(Ke (ts.map Zz) ts.length).length≤1000:=by
  rw[Ke];have q:=List.length_filter_le (fun x=>decide (Ds (ts.map Zz) (ts.map Zz).length x.toNat=0)) (Qh ts.length);rw[show(Qh ts.length).length=ts.length from by simp[Qh]]at q;have:=hG.edg.many;rw[List.length_map]at this;omega
 have hrs:=srcP_rng (ts.map Zz) ts.length;obtain⟨V,hV⟩:=nmd (W.alloc (.cells #[.int .i64 m1,.int .i64 m2,.int .i64 m3] 127));rw[←hV]at hb0 F0;have HF0:=Zd F0;have HB0:=Zd hb0;have HV:=Zd hV;have M0:=Bx.new (w:=W) [.int .i64 m1,.int .i64 m2,.int .i64 m3] 127 rfl;rw[←hV]at M0;have HM0:=Zd M0;have HSC:Zi (∀V',Below W.1.size W V'→Calls prog 213 #[.slice (some ⟨gb,goff,none⟩) ts.length gc] V' fun e w'=>AnsI V' (Ke (ts.map Zz) ts.length) e w'):=fun V' hV' =>
  l11Sources_is (some ⟨gb,goff,none⟩) gc ts V' hG.edg ((hz.below Zf (hV'.mono hlo)).up Zf (Nat.le_trans hlo hV'.size))
 obtain⟨SRC,hSRC⟩:=nmd (Ke (ts.map Zz) ts.length);rw[←hSRC]at HSC hsl hrs ⊢;have c0:=HF0.o.box.c 0 rfl;have b1:=M0.c 1 rfl;have b2:=M0.c 2 rfl;have HP0:=Zd (And.intro c0 (And.intro b1 b2));have hpV:p<V.1.size:=HF0.o.box.size;have hWV:W.1.size<V.1.size:=M0.size;have HLS:Zi (∀Y,Below V.1.size V Y→Y.cell? ⟨p,0,none⟩=some (.slice (some ⟨gb,goff,none⟩) ts.length gc)∧Y.cell? ⟨W.1.size,1,none⟩=some (.int .i64 m2)∧Y.cell? ⟨W.1.size,2,none⟩=some (.int .i64 m3)):=fun Y hY =>
  ⟨(hY.cell (p:=⟨p,0,none⟩) hpV).trans HP0.o.1,(hY.cell (p:=⟨W.1.size,1,none⟩) hWV).trans HP0.o.2.1,(hY.cell (p:=⟨W.1.size,2,none⟩) hWV).trans HP0.o.2.2⟩
 clear hV hb0 M0 F0 hSRC c0 b1 b2
 rcases hh:Wr SRC m2 with _|_
 case false =>
  have HR:Zi (Qp (ts.map Zz) SRC s m2 m3=(2,s)):=by rw[Zi,Qp,if_neg (by rw[hh];simp)]
  go_enter func177,ntmps177;go_wp2;rw[←HV.o];refine Qq (zl:=[]) (S:=fun Y=>Y.cell? ⟨p,0,none⟩=some (.slice (some ⟨gb,goff,none⟩) ts.length gc)∧Y.cell? ⟨W.1.size,1,none⟩=some (.int .i64 m2)∧Y.cell? ⟨W.1.size,2,none⟩=some (.int .i64 m3)) (by kernel_rfl) HP0.o (fun hH=>?_);refine Zq 0 hH ?_;refine Zq 1 hH ?_;refine Zq 2 hH ?_;refine Zq 3 hH ?_;refine Zq 5 hH ?_;refine Zq 6 hH ?_;refine Walks.on 4 fun K hK=>?_
  go_simp;refine(HSC.o V.drew HB0.o.drew).mono ?_;rintro e w2 ⟨⟨so,sc,rfl,hfr⟩,hb20⟩;have HB2:=Zd ((Below.refl V.1.size V).drew.trans hb20);have HS2:=Zd (HLS.o w2 HB2.o);have HIN:=Zd hfr.in;clear hb20 hfr;refine hK.out _ _ (fun _=>HS2.o) (fun _=>?_);clear hK K;refine Walks.on 7 fun K hK=>?_
  go_simp;refine(Lk w2.1.size so sc SRC m2 w2 false (by omega) HIN.o hh).mono ?_;rintro e w3 ⟨rfl,hw3⟩;rw[hw3];clear hw3 w3
  refine hK.out _ _ (fun _=>HS2.o) (fun _=>?_);clear hK K;refine Walks.on 8 fun K hK=>?_
  go_simp;refine hK.out _ _ (fun _=>HS2.o) (fun _=>?_);clear hK K;refine Walks.on 9 fun K hK=>?_
  go_simp;refine hK.out _ _ (fun _=>HS2.o) (fun _=>?_);clear hK K;refine Walks.on 10 fun K hK=>?_
  go_simp;refine hK.out _ _ (fun _=>HS2.o) (fun _=>?_);clear hK K;refine Walks.on 11 fun K hK=>?_
  go_simp;refine hK.out _ _ (fun _=>HS2.o) (fun _=>?_);clear hK K;refine Walks.on 12 fun K hK=>?_
  go_simp;refine hK.out _ _ (fun _=>HS2.o) (fun _=>?_);clear hK K;refine Walks.on 13 fun K hK=>?_
  go_simp;refine hK.out _ _ (fun _=>HS2.o) (fun _=>?_);clear hK K;refine Walks.on 14 fun K hK=>?_
  go_simp;refine hK.out _ _ (fun _=>HS2.o) (fun _=>?_);clear hK K;refine Walks.on 15 fun K hK=>?_
  go_simp;refine hK.out _ _ (fun _=>HS2.o) (fun _=>?_);clear hK K;refine Walks.done (by kernel_rfl) ?_ _;have HB3:=Zd (HB0.o.trans (HB2.o.mono HB0.o.size));clear hH HIN HSC;go_wp2;go_ret;rw[HR.o];exact⟨rfl,FStepS.same h HB3.o⟩
 rcases hv:Ju m3 with _|_
 case false =>
  have HR:Zi (Qp (ts.map Zz) SRC s m2 m3=(2,s)):=by rw[Zi,Qp,if_neg (by rw[hv];simp)]
  go_enter func177,ntmps177;go_wp2;rw[←HV.o];refine Qq (zl:=[]) (S:=fun Y=>Y.cell? ⟨p,0,none⟩=some (.slice (some ⟨gb,goff,none⟩) ts.length gc)∧Y.cell? ⟨W.1.size,1,none⟩=some (.int .i64 m2)∧Y.cell? ⟨W.1.size,2,none⟩=some (.int .i64 m3)) (by kernel_rfl) HP0.o (fun hH=>?_);refine Zq 0 hH ?_;refine Zq 1 hH ?_;refine Zq 2 hH ?_;refine Zq 3 hH ?_;refine Zq 5 hH ?_;refine Zq 6 hH ?_;refine Walks.on 4 fun K hK=>?_
  go_simp;refine(HSC.o V.drew HB0.o.drew).mono ?_;rintro e w2 ⟨⟨so,sc,rfl,hfr⟩,hb20⟩;have HB2:=Zd ((Below.refl V.1.size V).drew.trans hb20);have HS2:=Zd (HLS.o w2 HB2.o);have HIN:=Zd hfr.in;clear hb20 hfr;refine hK.out _ _ (fun _=>HS2.o) (fun _=>?_);clear hK K;refine Walks.on 7 fun K hK=>?_
  go_simp;refine(Lk w2.1.size so sc SRC m2 w2 true (by omega) HIN.o hh).mono ?_;rintro e w3 ⟨rfl,hw3⟩;rw[hw3];clear hw3 w3
  refine hK.out _ _ (fun _=>HS2.o) (fun _=>?_);clear hK K;refine Walks.on 8 fun K hK=>?_
  go_simp;refine hK.out _ _ (fun _=>HS2.o) (fun _=>?_);clear hK K;refine Walks.on 9 fun K hK=>?_
  go_simp;refine hK.out _ _ (fun _=>HS2.o) (fun _=>?_);clear hK K;refine Walks.on 10 fun K hK=>?_
  go_simp;refine hK.out _ _ (fun _=>HS2.o) (fun _=>?_);clear hK K;refine Walks.on 11 fun K hK=>?_
  go_simp;refine hK.out _ _ (fun _=>HS2.o) (fun _=>?_);clear hK K;refine Walks.on 12 fun K hK=>?_
  go_simp;refine(Vu m3 w2 false hv).mono ?_;rintro e w3 ⟨rfl,hw3⟩;rw[hw3];clear hw3 w3
  refine hK.out _ _ (fun _=>HS2.o) (fun _=>?_);clear hK K;refine Walks.on 13 fun K hK=>?_
  go_simp;refine hK.out _ _ (fun _=>HS2.o) (fun _=>?_);clear hK K;refine Walks.on 14 fun K hK=>?_
  go_simp;refine hK.out _ _ (fun _=>HS2.o) (fun _=>?_);clear hK K;refine Walks.on 15 fun K hK=>?_
  go_simp;refine hK.out _ _ (fun _=>HS2.o) (fun _=>?_);clear hK K;refine Walks.done (by kernel_rfl) ?_ _;have HB3:=Zd (HB0.o.trans (HB2.o.mono HB0.o.size));clear hH HIN HSC;go_wp2;go_ret;rw[HR.o];exact⟨rfl,FStepS.same h HB3.o⟩
 have hin:Wr SRC m2=true∧Ju m3=true:=⟨hh,hv⟩;obtain⟨k,hk,rfl⟩:=hrs m2 (by simpa[Wr]using hh);have hkb:k<s.bx.length:=by omega
 have hki:(k:Int)<(s.bx.length:Int):=by omega
 have hkg:(k:Int)<(ts.length:Int):=by omega
 have HIN0:=Zd hin;have HNE:=Zd hn;clear hin hn;go_enter func177,ntmps177;go_wp2;rw[←HV.o];refine Qq (zl:=[]) (S:=fun Y=>Y.cell? ⟨p,0,none⟩=some (.slice (some ⟨gb,goff,none⟩) ts.length gc)∧Y.cell? ⟨W.1.size,1,none⟩=some (.int .i64 (k:Int))∧Y.cell? ⟨W.1.size,2,none⟩=some (.int .i64 m3)) (by kernel_rfl) HP0.o (fun hH=>?_);refine Zq 0 hH ?_;refine Zq 1 hH ?_;refine Zq 2 hH ?_;refine Zq 3 hH ?_;refine Zq 5 hH ?_;refine Zq 6 hH ?_;refine Walks.on 4 fun K hK=>?_
 go_simp;refine(HSC.o V.drew HB0.o.drew).mono ?_;rintro e w2 ⟨⟨so,sc,rfl,hfr⟩,hb20⟩;have HB2:=Zd ((Below.refl V.1.size V).drew.trans hb20);have HS2:=Zd (HLS.o w2 HB2.o);have HIN:=Zd hfr.in;clear hb20 hfr;refine hK.out _ _ (fun _=>HS2.o) (fun _=>?_);clear hK K;refine Walks.on 7 fun K hK=>?_
 go_simp;refine(Lk w2.1.size so sc SRC (k:Int) w2 true (by omega) HIN.o hh).mono ?_;rintro e w3 ⟨rfl,hw3⟩;rw[hw3];clear hw3 w3
 refine hK.out _ _ (fun _=>HS2.o) (fun _=>?_);clear hK K;refine Walks.on 8 fun K hK=>?_
 go_simp;refine hK.out _ _ (fun _=>HS2.o) (fun _=>?_);clear hK K;refine Walks.on 9 fun K hK=>?_
 go_simp;refine hK.out _ _ (fun _=>HS2.o) (fun _=>?_);clear hK K;refine Walks.on 10 fun K hK=>?_
 go_simp;refine hK.out _ _ (fun _=>HS2.o) (fun _=>?_);clear hK K;refine Walks.on 11 fun K hK=>?_
 go_simp;refine hK.out _ _ (fun _=>HS2.o) (fun _=>?_);clear hK K;refine Walks.on 12 fun K hK=>?_
 go_simp;refine(Vu m3 w2 true hv).mono ?_;rintro e w3 ⟨rfl,hw3⟩;rw[hw3];clear hw3 w3
 refine hK.out _ _ (fun _=>HS2.o) (fun _=>?_);clear hK K;refine Walks.on 13 fun K hK=>?_
 go_simp;refine hK.out _ _ (fun _=>HS2.o) (fun _=>?_);clear hK K;refine Walks.on 14 fun K hK=>?_
 go_simp;refine hK.out _ _ (fun _=>HS2.o) (fun _=>?_);clear hK K;refine Walks.on 15 fun K hK=>?_
 go_simp;refine hK.out _ _ (fun _=>HS2.o) (fun _=>?_);clear hK K;refine Walks.done (by kernel_rfl) ?_ _;have HB3:=Zd (HB0.o.trans (HB2.o.mono HB0.o.size));have F2:=HF0.o.later HB2.o;have HF2:=Zd F2;have c3:=F2.box.c 3 rfl;have b1:=HS2.o.2.1;have b2:=HS2.o.2.2;have c0:=F2.box.c 0 rfl;have hW2:W.1.size<w2.1.size:=by have:=HB2.o.size;omega
 clear hH HIN HSC F2
 rcases hcl:s.cl with _|_
 case true =>
  have HR:Zi (Qp (ts.map Zz) SRC s (k:Int) m3=(3,s)):=by rw[Zi,Qp,if_pos HIN0.o,if_pos hcl]
  rw[hcl]at c3;go_wp2;go_ret;rw[HR.o];exact⟨rfl,FStepS.same h HB3.o⟩
 rw[hcl]at c3;obtain⟨b9,off9,e9,hb9,hc9⟩:=Qw hz.1 hk;obtain⟨rfl,rfl⟩:gb=b9∧goff=off9:=by simp at e9;exact e9
 have hcp:Wa (ts.map Zz) k=(el ts k).2.2.2.2.1:=by rw[Wa,Jz hk];rfl
 have g4:=(HB3.o.cell (p:=⟨gb,goff+k*6+4,none⟩) (Nat.lt_of_lt_of_le hb9 hlo)).trans (hc9 k hk).2.2.2.2.1;rw[←hcp]at g4;have hck:=hI.cap k (by rw[List.length_map];exact hk);have c4:=HF2.o.box.c 4 rfl;have ck:=(HF2.o.head hkb).1;obtain⟨ho,hc,hsl3,hn3,_⟩:=HF2.o.hnd.slice hkb;rw[hsl3]at ck;have HSL3:=Zd hsl3;have hTe:=Kl hkb;clear hcp hc9 e9 hsl3;obtain⟨RW,hRW⟩:=nmd (el s.bx k);have HR0:Zi (Qp (ts.map Zz) SRC s (k:Int) m3=if Wa (ts.map Zz) k-(RW.length:Int)<1 then(4,s)else(0,{ s with bx:=s.bx.set k (RW++[(s.it,m3,0)]),it:=s.it+1 })):=by rw[Zi,Qp,if_pos HIN0.o,if_neg (by simp[hcl]),Int.toNat_natCast,hRW]
 rw[←hRW]at ck hck HSL3 hTe;have HRW:=Zd hRW
 generalize Wa (ts.map Zz) k=cpk at g4 hck HR0
 clear hRW hcl
 by_cases hfull:(RW.length:Int)=cpk
 ·have hd:((RW.length:Int)==cpk)=true:=by simpa using hfull
  have HFU:=Zd hfull;clear hfull hck;go_wp2_with fail
  go_quiet (fail)
  go_wp2;go_ret;rw[HR0.o,if_pos (by have:=HFU.o;omega)];exact⟨rfl,FStepS.same h (Zc HB3.o _)⟩
 ·have hd:((RW.length:Int)==cpk)=false:=by simpa using hfull
  go_wp2_with fail
  go_quiet (fail)
  go_wp2_with fail
  generalize hV7:w2.drewN _=V7
  have B7:Below w2.1.size w2 V7:=by rw[←hV7];exact Zc (Below.refl _ _) _
  have HB7:=Zd (HB3.o.trans (B7.mono HB3.o.size));have F7:=HF2.o.later B7;have HF7:=Zd F7;have M7:=(HM0.o.later HB2.o).later B7;clear hV7 B7 HF2 c0 c3 c4 ck b1 b2 g4 hd;have c4:=F7.box.c 4 rfl;have ck:=(F7.head hkb).1;rw[HSL3.o]at ck;have c2:=F7.box.c 2 rfl;have b1:=M7.c 1 rfl;have b2:=M7.c 2 rfl;have hpq:=F7.box.size;have hbq:=F7.hnd.size;have hmq:=M7.size;have hxk:k<xs.length:=by rw[F7.hnd.len];exact hkb
  have hnw:(el xs k).ownBlock≠some W.1.size:=fun e=>by
   have:=(Zj (h.hnd.row k hkb) e).2;omega
  have hnp:(el xs k).ownBlock≠some p:=F7.px k hkb;have hnb3:(el xs k).ownBlock≠some bb:=F7.bbx hkb;have hw1:IntKind.i64.wrap (s.it+1)=s.it+1:=by rw[IntKind.wrap_i64];omega
  rw[HSL3.o]at hnw hnp hnb3
  try dsimp only at hnw hnp hnb3
  clear F7 M7;refine Qq (zl:=[27]) (S:=fun Y=>Y.cell? ⟨p,4,none⟩=some (.slice (some ⟨bb,0,none⟩) s.bx.length s.bx.length)∧Y.cell? ⟨bb,k,none⟩=some (.slice ho RW.length hc)∧Y.cell? ⟨p,2,none⟩=some (.int .i64 s.it)∧Y.cell? ⟨W.1.size,1,none⟩=some (.int .i64 (k:Int))∧Y.cell? ⟨W.1.size,2,none⟩=some (.int .i64 m3)) (by kernel_rfl) ⟨c4,ck,c2,b1,b2⟩ (fun hH=>?_);refine Zq 0 hH ?_;refine Zq 1 hH ?_;refine Zq 2 hH ?_;refine Zq 3 hH ?_;refine Zq 4 hH ?_;refine Zq 5 hH ?_;refine Zq 6 hH ?_;refine Zq 7 hH ?_;refine Zq 8 hH ?_;refine Zq 9 hH ?_;refine Zq 10 hH ?_;refine Zq 11 hH ?_;refine Zq 12 hH ?_;refine Zq 13 hH ?_;refine Zq 14 hH ?_;refine Zq 15 hH ?_;refine Zq 16 hH ?_;refine Zq 17 hH ?_;refine Zq 18 hH ?_;refine Zq 19 hH ?_;refine Zq 20 hH ?_;refine Zq 21 hH ?_;refine Zq 22 hH ?_;refine Zq 23 hH ?_;refine Walks.on 24 fun K hK=>?_
  go_simp;obtain⟨U,hU⟩:=nmd ((V7.alloc (.cells #[.int .i64 s.it,.int .i64 m3,.int .i64 0] 163)).drew);rw[←hU];have hbU:Below V7.1.size V7 U:=by rw[hU];exact(Zk V7 _).drew
  have hN:kTk.In U.1.size U (some ⟨V7.1.size,0,none⟩) [(s.it,m3,0)]:=by
   have hx:Bx U V7.1.size [.int .i64 s.it,.int .i64 m3,.int .i64 0]:=by rw[hU];exact(Bx.new (w:=V7) [.int .i64 s.it,.int .i64 m3,.int .i64 0] 163 rfl).drew
   exact kTk_one hx.size (hx.c 0 rfl) (hx.c 1 rfl) (hx.c 2 rfl)
  have hUs:=hbU.size;have SU:U.cell? ⟨p,4,none⟩=some (.slice (some ⟨bb,0,none⟩) s.bx.length s.bx.length)∧U.cell? ⟨bb,k,none⟩=some (.slice ho RW.length hc)∧U.cell? ⟨p,2,none⟩=some (.int .i64 s.it)∧U.cell? ⟨W.1.size,1,none⟩=some (.int .i64 (k:Int))∧U.cell? ⟨W.1.size,2,none⟩=some (.int .i64 m3):=⟨(hbU.cell (p:=⟨p,4,none⟩) hpq).trans c4,(hbU.cell (p:=⟨bb,k,none⟩) hbq).trans ck,(hbU.cell (p:=⟨p,2,none⟩) hpq).trans c2,(hbU.cell (p:=⟨W.1.size,1,none⟩) hmq).trans b1,(hbU.cell (p:=⟨W.1.size,2,none⟩) hmq).trans b2⟩;refine hK.out _ _ (fun _=>SU) (fun _=>?_);clear hK K hU;have hOU:kTk.Own (bb+1) U (.slice ho RW.length hc) RW:=by rw[←HSL3.o,HRW.o];exact(HF7.o.later hbU).hnd.row k hkb
  refine Walks.on 25 fun K hK=>?_
  refine Je Mt U (by rfl) (.tmp 63) (.tmp 72) (by rfl) (bb+1) (.slice ho RW.length hc) RW (by rfl) hOU (by omega) (some ⟨V7.1.size,0,none⟩) [(s.it,m3,0)] 1 1 (by rfl) rfl (by simp) _ hN (by rw[List.length_singleton];omega) ?_;intro v' w6 hO2 hB2 hG2 hw2;obtain⟨L2,hL2⟩:=nmd (RW++[(s.it,m3,0)]);rw[←hL2]at hO2;have HL2:=Zd hL2;clear hL2;obtain⟨vo,vc,hv',_,_⟩:=hO2.fresh;have S2:w6.cell? ⟨p,4,none⟩=some (.slice (some ⟨bb,0,none⟩) s.bx.length s.bx.length)∧w6.cell? ⟨bb,k,none⟩=some (.slice ho RW.length hc)∧w6.cell? ⟨p,2,none⟩=some (.int .i64 s.it)∧w6.cell? ⟨W.1.size,1,none⟩=some (.int .i64 (k:Int))∧w6.cell? ⟨W.1.size,2,none⟩=some (.int .i64 m3):=⟨(World.cell?_of_block (a:=⟨p,4,none⟩) (hG2.block p (Nat.lt_of_lt_of_le hpq hUs) (fun e=>hnp e.symm))).trans SU.1,(World.cell?_of_block (a:=⟨bb,k,none⟩) (hG2.block bb (Nat.lt_of_lt_of_le hbq hUs) (fun e=>hnb3 e.symm))).trans SU.2.1,(World.cell?_of_block (a:=⟨p,2,none⟩) (hG2.block p (Nat.lt_of_lt_of_le hpq hUs) (fun e=>hnp e.symm))).trans SU.2.2.1,(World.cell?_of_block (a:=⟨W.1.size,1,none⟩) (hG2.block W.1.size (Nat.lt_of_lt_of_le hmq hUs) (fun e=>hnw e.symm))).trans SU.2.2.2.1,(World.cell?_of_block (a:=⟨W.1.size,2,none⟩) (hG2.block W.1.size (Nat.lt_of_lt_of_le hmq hUs) (fun e=>hnw e.symm))).trans SU.2.2.2.2⟩;refine hK.out _ _ (fun _=>S2) (fun _=>?_);clear hK K;refine Zq 26 S2 ?_;refine Walks.on 27 fun K hK=>?_
  have FU:=HF7.o.later hbU;have fB:w6.frozen? ⟨bb,k,none⟩=false:=(World.frozen?_of_block (a:=⟨bb,k,none⟩) (hG2.block bb (Nat.lt_of_lt_of_le hbq hUs) (fun e=>hnb3 e.symm))).trans (FU.head hkb).2;have HX2:=Zd (FU.putRow hkb hO2 (hB2.mono (by have:=FU.lob;omega)) (by rw[HSL3.o];exact hG2) (by rw[HSL3.o];exact hw2));have cB2:=S2.2.1;rw[hv']at HX2
  (try rw[hv'])
  go_simp;refine hK.out _ _ (fun h=>absurd h (by decide)) (fun _=>?_);refine Walks.done (by kernel_rfl) ?_ _;clear hK K;have HBU:=Zd (HB7.o.trans (hbU.mono HB7.o.size));have HX3:Zi (FX lo p (.slice (some ⟨gb,goff,none⟩) ts.length gc) (FO p bb xs ev fv uv) W (w6.setCell ⟨bb,k,none⟩ (.slice vo L2.length vc)) bb (xs.set k (.slice vo L2.length vc)) ev fv uv { s with bx:=s.bx.set k (RW++[(s.it,m3,0)]) }):=by
   rw[Zi,←HL2.o];exact FX.start h HBU.o HX2.o
  obtain⟨w7,h7⟩:=nmd (w6.setCell ⟨bb,k,none⟩ (.slice vo L2.length vc));rw[←h7]at HX3 ⊢;have c27:=HX3.o.flow.box.c 2 rfl;have f27:=HX3.o.flow.box.f 2 rfl;dsimp only at c27;have HX8:=Zd (HX3.o.trans (HX3.o.flow.putIt (s.it+1)));clear FU S2 SU hOU hN hbU hO2 hB2 hG2 hw2 fB cB2 c4 ck c2 b1 b2 h7 HX2 hH;go_wp2;go_ret;rw[HR0.o,if_neg (by omega)];exact⟨rfl,HX8.o.step⟩
theorem l12Live_is(ti it:Int)(cl:Bool)(ao:Option Addr)(cap:Nat)(ls:List (List (Int×Int×Int)))(emo:Option Addr)(nem emc:Nat)(fao:Option Addr)(nfa fac:Nat)(fuo:Option Addr)(nfu fuc:Nat)(w:World)(hl:ls.length≤1048576∧Zs ls≤1048576)(hz:InTT w.1.size w ao ls) :
  Calls prog 183 #[.agg #[.int .i64 ti,.int .i64 it,.bool cl,.slice ao ls.length cap,.slice emo nem emc,.slice fao nfa fac,.slice fuo nfu fuc]] w fun e w'=>e=.returned (.int .i64 (Zs ls:Int))∧Below w.1.size w w':=by
 obtain⟨hs,hz⟩:=hz;have h1:=hl.1;have h2:=hl.2;have hB:=Zk w (.cells #[.int .i64 ti,.int .i64 it,.bool cl,.slice ao ls.length cap,.slice emo nem emc,.slice fao nfa fac,.slice fuo nfu fuc] 48);have HZ:=Zd (hz.later hB);have HB:=Zd hB;obtain⟨V,hV⟩:=nmd (w.alloc (.cells #[.int .i64 ti,.int .i64 it,.bool cl,.slice ao ls.length cap,.slice emo nem emc,.slice fao nfa fac,.slice fuo nfu fuc] 48));rw[←hV]at HZ HB;have HV:=Zd hV;clear hV hz hB;go_enter func183,ntmps183;go_wp2;rw[←HV.o]
 go_loop [3,9] (fun v i=>∃k:Nat,k≤ls.length∧i=.int .i64 k∧v=.int .i64 (Zs (ls.take k):Int)) (fun _ i=>ls.length-(intOf i).toNat)
 case atStart=>exact⟨0,Nat.zero_le _,rfl,by simp[Zs]⟩
 case round =>
  obtain⟨k,hk,rfl,rfl⟩:=hrel
  by_cases hlt:k<ls.length
  ·obtain⟨b,off,o,c,rfl,hb,hc,_,_⟩:=HZ.o.at hlt;have ht:=Ws hlt;have hle:=Kl hlt
   generalize(el ls k).length=x at hc ht hle
   have HT:=Zd ht;clear ht;go_wp2;go_round
   case rel=>exact⟨k+1,by omega,by go_num,by rw[HT.o];go_num⟩
   case measure=>simp[intOf];omega
  ·obtain rfl:k=ls.length:=by omega
   rw[List.take_length];go_wp2;go_ret;exact⟨rfl,HB.o⟩
theorem liveM_any(lo:Nat)(W:World)(p bb:Nat)(gv:Value)(xs:List Value)(ev fv uv:Value)(s:PP)(h:FlowS lo W p bb gv xs ev fv uv s)(hn:s.bx.length≤10)(ht:Zs s.bx≤100000) :
  Calls prog 180 #[.pointer (some ⟨p,0,none⟩)] W fun e W'=>e=.returned (.int .i64 (Zs s.bx:Int))∧Below W.1.size W W':=by
 have c1:=h.box.c 1 rfl;have c2:=h.box.c 2 rfl;have c3:=h.box.c 3 rfl;have c4:=h.box.c 4 rfl;have c5:=h.box.c 5 rfl;have c6:=h.box.c 6 rfl;have c7:=h.box.c 7 rfl;obtain⟨eo,ec,he,_,_⟩:=h.emo.fresh;obtain⟨fo,fc,hf,_,_⟩:=h.fao.fresh;obtain⟨uo,uc,hu,_,_⟩:=h.fuo.fresh;rw[he]at c5;rw[hf]at c6;rw[hu]at c7;have HL:=Zd (l12Live_is s.ti s.it s.cl (some ⟨bb,0,none⟩) s.bx.length s.bx eo s.em.length ec fo s.fa.length fc uo s.fu.length uc W ⟨by omega,by omega⟩ ⟨_,h.hnd.fr.in⟩);clear h he hf hu;go_enter func180,ntmps180;go_wp2_with fail;refine HL.o.mono ?_;rintro e w2 ⟨rfl,hb2⟩;go_wp2;go_ret;exact⟨rfl,hb2⟩
theorem moveS1(lo:Nat)(W:World)(p bb gb goff gc:Nat)(ts:List LNode)(xs:List Value)(ev fv uv:Value)(s:PP)(m2 m3:Int)(h:FlowS lo W p bb (.slice (some ⟨gb,goff,none⟩) ts.length gc) xs ev fv uv s)(hz:DIn Ja lo W (some ⟨gb,goff,none⟩) ts)(hG:GoodE (ts.map Zz))(hI:InvS (ts.map Zz) s)(hB:RawP ts.length s) :
  Calls prog 140 #[.pointer (some ⟨p,0,none⟩),.agg #[.int .i64 1,.int .i64 m2,.int .i64 m3]] W fun e W'=>e=.returned (.int .i64 (Qp (ts.map Zz) (Ke (ts.map Zz) ts.length) s m2 m3).1)∧FStepS lo p (.slice (some ⟨gb,goff,none⟩) ts.length gc) (FO p bb xs ev fv uv) W W' (Qp (ts.map Zz) (Ke (ts.map Zz) ts.length) s m2 m3).2:=by
 have hb0:=Zk W (.cells #[.int .i64 1,.int .i64 m2,.int .i64 m3] 127);have hlo:lo≤W.1.size:=h.lo_le;have F0:=h.later hb0;have hp:=h.box.size;have hbb:=h.hnd.size;have hN:=hB.len;have hmany:s.bx.length≤10:=by have:=hG.edg.many;rw[List.length_map]at this;omega
 have h1:=hB.tot;have h2:=hB.em;have h3:=hB.fu;have h4:=hB.it1;have h5:=hB.ti0;have h6:=hB.ti1;obtain⟨V,hV⟩:=nmd (W.alloc (.cells #[.int .i64 1,.int .i64 m2,.int .i64 m3] 127));rw[←hV]at hb0 F0;have HF0:=Zd F0;have HB0:=Zd hb0;have HV:=Zd hV;have M0:=Bx.new (w:=W) [.int .i64 1,.int .i64 m2,.int .i64 m3] 127 rfl;rw[←hV]at M0;have HM0:=Zd M0;obtain⟨b0,b1,b2⟩:=M0.y3;have hz0:=hz.below Zf (hb0.mono hlo);have HNN:=Zd hN;clear hV hb0 M0 F0 hN;have HO:=Zd (offerS_any lo V p bb gb goff gc ts xs ev fv uv s 1 m2 m3 HF0.o HNN.o hz0 hG hI (by omega) hB.it0 (by omega));go_enter func140,ntmps140;go_wp2_with fail;rw[←HV.o];refine HO.o.mono ?_;rintro e w2 ⟨rfl,hs⟩;have HS:=Zd (FStepS.start h HB0.o hs);clear hs;go_wp2;go_ret;exact⟨rfl,HS.o⟩
theorem moveS2(lo:Nat)(W:World)(p bb gb goff gc:Nat)(ts:List LNode)(xs:List Value)(ev fv uv:Value)(s:PP)(m2 m3:Int)(h:FlowS lo W p bb (.slice (some ⟨gb,goff,none⟩) ts.length gc) xs ev fv uv s)(hz:DIn Ja lo W (some ⟨gb,goff,none⟩) ts)(hG:GoodE (ts.map Zz))(hI:InvS (ts.map Zz) s)(hB:RawP ts.length s) :
  Calls prog 140 #[.pointer (some ⟨p,0,none⟩),.agg #[.int .i64 2,.int .i64 m2,.int .i64 m3]] W fun e W'=>e=.returned (.int .i64 (Qk (ts.map Zz) s m2).1)∧FStepS lo p (.slice (some ⟨gb,goff,none⟩) ts.length gc) (FO p bb xs ev fv uv) W W' (Qk (ts.map Zz) s m2).2:=by
 have hb0:=Zk W (.cells #[.int .i64 2,.int .i64 m2,.int .i64 m3] 127);have hlo:lo≤W.1.size:=h.lo_le;have F0:=h.later hb0;have hp:=h.box.size;have hbb:=h.hnd.size;have hN:=hB.len;have hmany:s.bx.length≤10:=by have:=hG.edg.many;rw[List.length_map]at this;omega
 have h1:=hB.tot;have h2:=hB.em;have h3:=hB.fu;have h4:=hB.it1;have h5:=hB.ti0;have h6:=hB.ti1;obtain⟨V,hV⟩:=nmd (W.alloc (.cells #[.int .i64 2,.int .i64 m2,.int .i64 m3] 127));rw[←hV]at hb0 F0;have HF0:=Zd F0;have HB0:=Zd hb0;have HV:=Zd hV;have M0:=Bx.new (w:=W) [.int .i64 2,.int .i64 m2,.int .i64 m3] 127 rfl;rw[←hV]at M0;have HM0:=Zd M0;obtain⟨b0,b1,b2⟩:=M0.y3;have hz0:=hz.below Zf (hb0.mono hlo);have HNN:=Zd hN;clear hV hb0 M0 F0 hN;have c0:=HF0.o.box.c 0 rfl;have hmany2:ts.length≤10:=by have:=hG.edg.many;rw[List.length_map]at this;exact this
 have hw:IntKind.i64.wrap ((ts.length:Int)-1)=(ts.length:Int)-1:=by rw[IntKind.wrap_i64];omega
 by_cases hin:0≤m2∧m2<s.bx.length
 ·obtain⟨k,rfl⟩:∃k:Nat,m2=(k:Int):=⟨m2.toNat,by omega⟩;have hk:k<s.bx.length:=by omega
  have hkt:k<ts.length:=by have:=HNN.o;omega
  have hki:(k:Int)<(s.bx.length:Int):=by omega
  have HLI:Zi (∀n,Calls prog 72 #[.int .i64 (k:Int),.int .i64 0,.int .i64 ((ts.length:Int)-1)] (V.drewN n) fun e w'=>e=.returned (.bool true)∧w'=V.drewN n):=fun n=>Zr _ _ _ _ _ (by rw[decide_eq_true (by omega),decide_eq_true (by omega)];rfl)
  have c4:=HF0.o.box.c 4 rfl;have ck:=(HF0.o.head hk).1;obtain⟨ho,hc,hsl,_,_⟩:=HF0.o.hnd.slice hk;rw[hsl]at ck;clear hsl
  cases hbx:el s.bx k with
  |nil =>
   have HR:Zi (Qk (ts.map Zz) s (k:Int)=(5,s)):=by rw[Zi,Qk,if_pos hin,Int.toNat_natCast,hbx]
   rw[hbx]at ck;dsimp only[List.length_nil]at ck;clear hin hbx;go_enter func140,ntmps140;go_wp2_with fail;rw[←HV.o]
   go_quiet (exact Calls.quiet_of_same (HLI.o _))
   go_wp2_with fail
   go_quiet (fail)
   go_wp2;go_ret;rw[HR.o];exact⟨rfl,FStepS.same h (by first|exact Zc HB0.o _|exact Zc (Zc HB0.o _) _)⟩
  |cons t r =>
   obtain⟨t1,t2,t3⟩:=t;have htr:=hB.tr k (t1,t2,t3) (by rw[hbx];simp);have hvv:=hI.val k (t1,t2,t3) (by rw[hbx];simp);dsimp only at htr hvv;have HBX:=Zd hbx;rw[hbx]at ck;have hne:(((r.length+1:Nat):Int)==0)=false:=by simp;omega
   have hne2:(((((t1,t2,t3)::r).length:Nat):Int)==0)=false:=by simp;omega
   clear hin hbx;go_enter func140,ntmps140;go_wp2_with fail;rw[←HV.o]
   go_quiet (exact Calls.quiet_of_same (HLI.o _))
   go_wp2_with fail
   go_quiet (fail)
   go_wp2_with fail
   generalize hV7:V.drewN _=V7
   have B7:Below W.1.size W V7:=by rw[←hV7];exact Zc HB0.o _
   have HS:=Zd (stepS_any lo V7 p bb gb goff gc ts xs ev fv uv s k t1 t2 t3 r (h.later B7) HNN.o hkt HBX.o (hz.below Zf (B7.mono hlo)) hG hvv (by omega) (by omega) (by omega) h5 h6 htr.1 (by omega));have HB7:=Zd B7;clear hV7 B7;refine HS.o.mono ?_;rintro e w2 ⟨rfl,hs⟩;have HS2:=Zd (FStepS.start h HB7.o hs);clear hs;go_wp2;go_ret
   exact⟨rfl,HS2.o⟩
 ·have HR:Zi (Qk (ts.map Zz) s m2=(2,s)):=by rw[Zi,Qk,if_neg hin]
  have HLI:Zi (∀n,Calls prog 72 #[.int .i64 m2,.int .i64 0,.int .i64 ((ts.length:Int)-1)] (V.drewN n) fun e w'=>e=.returned (.bool false)∧w'=V.drewN n):=fun n=>Zr _ _ _ _ _ (by
   have hnn:=HNN.o
   by_cases hz9:0≤m2
   ·rw[decide_eq_false (p:=m2≤_) (by omega),Bool.and_false]
   ·rw[decide_eq_false hz9,Bool.false_and])
  clear hin;go_enter func140,ntmps140;go_wp2_with fail;rw[←HV.o]
  go_quiet (exact Calls.quiet_of_same (HLI.o _))
  go_wp2;go_ret;rw[HR.o];exact⟨rfl,FStepS.same h (Zc HB0.o _)⟩
theorem moveS3(lo:Nat)(W:World)(p bb gb goff gc:Nat)(ts:List LNode)(xs:List Value)(ev fv uv:Value)(s:PP)(m2 m3:Int)(h:FlowS lo W p bb (.slice (some ⟨gb,goff,none⟩) ts.length gc) xs ev fv uv s)(hz:DIn Ja lo W (some ⟨gb,goff,none⟩) ts)(hG:GoodE (ts.map Zz))(hI:InvS (ts.map Zz) s)(hB:RawP ts.length s) :
  Calls prog 140 #[.pointer (some ⟨p,0,none⟩),.agg #[.int .i64 3,.int .i64 m2,.int .i64 m3]] W fun e W'=>e=.returned (.int .i64 (Jn s m2).1)∧FStepS lo p (.slice (some ⟨gb,goff,none⟩) ts.length gc) (FO p bb xs ev fv uv) W W' (Jn s m2).2:=by
 have hb0:=Zk W (.cells #[.int .i64 3,.int .i64 m2,.int .i64 m3] 127);have hlo:lo≤W.1.size:=h.lo_le;have F0:=h.later hb0;have hp:=h.box.size;have hbb:=h.hnd.size;have hN:=hB.len;have hmany:s.bx.length≤10:=by have:=hG.edg.many;rw[List.length_map]at this;omega
 have h1:=hB.tot;have h2:=hB.em;have h3:=hB.fu;have h4:=hB.it1;have h5:=hB.ti0;have h6:=hB.ti1;obtain⟨V,hV⟩:=nmd (W.alloc (.cells #[.int .i64 3,.int .i64 m2,.int .i64 m3] 127));rw[←hV]at hb0 F0;have HF0:=Zd F0;have HB0:=Zd hb0;have HV:=Zd hV;have M0:=Bx.new (w:=W) [.int .i64 3,.int .i64 m2,.int .i64 m3] 127 rfl;rw[←hV]at M0;have HM0:=Zd M0;obtain⟨b0,b1,b2⟩:=M0.y3;have hz0:=hz.below Zf (hb0.mono hlo);have HNN:=Zd hN;clear hV hb0 M0 F0 hN;have c0:=HF0.o.box.c 0 rfl;have hmany2:ts.length≤10:=by have:=hG.edg.many;rw[List.length_map]at this;exact this
 have hw:IntKind.i64.wrap ((ts.length:Int)-1)=(ts.length:Int)-1:=by rw[IntKind.wrap_i64];omega
 by_cases hin:0≤m2∧m2<s.bx.length
 ·obtain⟨k,rfl⟩:∃k:Nat,m2=(k:Int):=⟨m2.toNat,by omega⟩;have hk:k<s.bx.length:=by omega
  have hkt:k<ts.length:=by have:=HNN.o;omega
  have hki:(k:Int)<(s.bx.length:Int):=by omega
  have HLI:Zi (∀n,Calls prog 72 #[.int .i64 (k:Int),.int .i64 0,.int .i64 ((ts.length:Int)-1)] (V.drewN n) fun e w'=>e=.returned (.bool true)∧w'=V.drewN n):=fun n=>Zr _ _ _ _ _ (by rw[decide_eq_true (by omega),decide_eq_true (by omega)];rfl)
  have c4:=HF0.o.box.c 4 rfl;have ck:=(HF0.o.head hk).1;obtain⟨ho,hc,hsl,_,_⟩:=HF0.o.hnd.slice hk;rw[hsl]at ck;clear hsl
  cases hbx:el s.bx k with
  |nil =>
   have HR:Zi (Jn s (k:Int)=(5,s)):=by rw[Zi,Jn,if_pos hin,Int.toNat_natCast,hbx]
   rw[hbx]at ck;dsimp only[List.length_nil]at ck;clear hin hbx;go_enter func140,ntmps140;go_wp2_with fail;rw[←HV.o]
   go_quiet (exact Calls.quiet_of_same (HLI.o _))
   go_wp2_with fail
   go_quiet (fail)
   go_wp2;go_ret;rw[HR.o];exact⟨rfl,FStepS.same h (by first|exact Zc HB0.o _|exact Zc (Zc HB0.o _) _)⟩
  |cons t r =>
   obtain⟨t1,t2,t3⟩:=t;have htr:=hB.tr k (t1,t2,t3) (by rw[hbx];simp);have hvv:=hI.val k (t1,t2,t3) (by rw[hbx];simp);dsimp only at htr hvv;have HBX:=Zd hbx;rw[hbx]at ck;have hne:(((r.length+1:Nat):Int)==0)=false:=by simp;omega
   have hne2:(((((t1,t2,t3)::r).length:Nat):Int)==0)=false:=by simp;omega
   clear hin hbx;go_enter func140,ntmps140;go_wp2_with fail;rw[←HV.o]
   go_quiet (exact Calls.quiet_of_same (HLI.o _))
   go_wp2_with fail
   go_quiet (fail)
   go_wp2_with fail
   generalize hV7:V.drewN _=V7
   have B7:Below W.1.size W V7:=by rw[←hV7];exact Zc HB0.o _
   have HS:=Zd (Ci lo V7 p bb _ xs ev fv uv s k t1 t2 t3 r (h.later B7) hk HBX.o hmany (by omega) (by omega) h5 h6 htr.1 (by omega));have HB7:=Zd B7;clear hV7 B7;refine HS.o.mono ?_;rintro e w2 ⟨rfl,hs⟩;have HS2:=Zd (FStepS.start h HB7.o hs);clear hs;have HR:Zi (Jn s (k:Int)=(0,Kw s k t1 t2 t3 r)):=by rw[Zi,Jn,if_pos ⟨by omega,by omega⟩,Int.toNat_natCast,HBX.o]
   go_wp2;go_ret;rw[HR.o];exact⟨rfl,HS2.o⟩
 ·have HR:Zi (Jn s m2=(2,s)):=by rw[Zi,Jn,if_neg hin]
  have HLI:Zi (∀n,Calls prog 72 #[.int .i64 m2,.int .i64 0,.int .i64 ((ts.length:Int)-1)] (V.drewN n) fun e w'=>e=.returned (.bool false)∧w'=V.drewN n):=fun n=>Zr _ _ _ _ _ (by
   have hnn:=HNN.o
   by_cases hz9:0≤m2
   ·rw[decide_eq_false (p:=m2≤_) (by omega),Bool.and_false]
   ·rw[decide_eq_false hz9,Bool.false_and])
  clear hin;go_enter func140,ntmps140;go_wp2_with fail;rw[←HV.o]
  go_quiet (exact Calls.quiet_of_same (HLI.o _))
  go_wp2;go_ret;rw[HR.o];exact⟨rfl,FStepS.same h (Zc HB0.o _)⟩
end Go.Proofs.YtdacedbfnlkghaaGreatDoor