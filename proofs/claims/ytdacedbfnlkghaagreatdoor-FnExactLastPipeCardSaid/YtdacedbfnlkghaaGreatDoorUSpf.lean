/- The specification's step of a node. No conditions but those written. -/
import Derived.Test.YtdacedbfnlkghaaGreatDoorUSpdSpe
namespace Go.Proofs.YtdacedbfnlkghaaGreatDoor
set_option maxHeartbeats 16000000
set_option maxRecDepth 100000
open Go.Proofs.Tryz
open Go.RowKit
theorem stepS_any(lo:Nat)(W:World)(p bb gb goff gc:Nat)(ts:List LNode)(xs:List Value)(ev fv uv:Value)(s:PP)(k:Nat)(t1 t2 t3:Int)(r:List (Int×Int×Int))(h:FlowS lo W p bb (.slice (some ⟨gb,goff,none⟩) ts.length gc) xs ev fv uv s)(hn:s.bx.length=ts.length)(hkt:k<ts.length)(hbx:el s.bx k=(t1,t2,t3)::r)(hz:DIn Ja lo W (some ⟨gb,goff,none⟩) ts)(hG:GoodE (ts.map Zz))(hv2:Ju t2=true)(ht:Zs s.bx+s.fa.length+100≤100000)(hem:s.em.length+100≤1000000)(hfu:s.fu.length≤100)(h0:0≤s.ti)(h1:s.ti≤1000000)(h3:0≤t3)(h4:t3≤1000) :
  Calls prog 179 #[.pointer (some ⟨p,0,none⟩),.int .i64 (k:Int)] W fun e W'=>e=.returned (.int .i64 (Qk (ts.map Zz) s (k:Int)).1)∧FStepS lo p (.slice (some ⟨gb,goff,none⟩) ts.length gc) (FO p bb xs ev fv uv) W W' (Qk (ts.map Zz) s (k:Int)).2:=by
 have hlo:lo≤W.1.size:=h.lo_le;have hp:=h.box.size;have hbb:=h.hnd.size;have hk:k<s.bx.length:=by omega
 have hkg:(k:Int)<(ts.length:Int):=by omega
 have hki:(k:Int)<(s.bx.length:Int):=by omega
 obtain⟨b9,off9,e9,hb9,hc9⟩:=Qw hz.1 hkt;obtain⟨rfl,rfl⟩:gb=b9∧goff=off9:=by simp at e9;exact e9
 obtain⟨n0,n1,n2,n3,n4,n5⟩:=hc9 k hkt;have hin:=hz.2 k hkt;have hst:Ky (ts.map Zz) k t2=Lb (el ts k).2.1 (el ts k).2.2.1 (el ts k).2.2.2.1 t2:=by rw[Ky,Jz hkt];rfl
 have hnx:nxP (ts.map Zz) k=(el ts k).2.2.2.2.2.2.2:=by rw[nxP,Jz hkt];rfl
 have hgd:Zg (el ts k).2.1 (el ts k).2.2.1 (el ts k).2.2.2.1=true:=by have:=hG.st k (by rw[List.length_map];exact hkt);rw[Jz hkt]at this;exact this
 obtain⟨⟨nm,kd,sa,sb,cp,⟨nxo,nxc,nx⟩⟩,ex⟩:∃v,v=el ts k:=⟨_,rfl⟩;rw[←ex]at n0 n1 n2 n3 n4 n5 hin hst hnx hgd;dsimp only at n0 n1 n2 n3 n4 n5 hst hnx hgd;have HNX:Zi (kI.In lo W nxo nx):=hin;have hrg:∀x∈nx,∃j:Nat,j<ts.length∧x=(j:Int):=fun x hx=>by obtain⟨j,hj,e⟩:=hG.edg.rng k (by rw[List.length_map];exact hkt) x (by rw[hnx];exact hx);rw[List.length_map]at hj;exact⟨j,hj,e⟩
 have HRG:=Zd hrg;have hnl:nx.length≤10:=by rw[←hnx];exact hG.edg.few k (by rw[List.length_map];exact hkt)
 have hmany:s.bx.length≤10:=by have:=hG.edg.many;rw[List.length_map]at this;omega
 have HCAP:Zi (∀j,j<ts.length→W.cell? ⟨gb,goff+j*6+4,none⟩=some (.int .i64 (Wa (ts.map Zz) j))∧3≤Wa (ts.map Zz) j∧Wa (ts.map Zz) j≤8):=fun j hj=>by
  have e:=hG.cap j (by rw[List.length_map];exact hj);refine⟨?_,e⟩;rw[show Wa (ts.map Zz) j=(el ts j).2.2.2.2.1 from by rw[Wa,Jz hj];rfl];exact(hc9 j hj).2.2.2.2.1
 rw[Uw hgd hv2]at hst;have HAP:=Zd (fun w=>Mn kd sa sb t2 w hgd hv2);have hol:(Jo kd sa sb t2).1.length≤3:=appSt_len hgd
 rcases hA:Jo kd sa sb t2 with⟨out,fl⟩
 rw[hA]at hst HAP hol;dsimp only at hol hst;have HRS:=Zd (stepR_at hk hbx hst);have HNP:=Zd hnx;obtain⟨ho,hc,hsl,hq1,hFr⟩:=h.hnd.slice hk;rw[hbx]at hsl hFr;obtain⟨g,rfl,hg1,hg2,hg3,hgo⟩:=hFr.at (by simp);simp only[List.length_cons]at hsl;have c0:=h.box.c 0 rfl;have c4:=h.box.c 4 rfl;have ck:=(h.head hk).1;rw[hsl]at ck;have hr1:(0:Int)<((r.length+1:Nat):Int):=by omega
 have hn1:s.bx.length≤ts.length:=by omega
 have hn2:ts.length≤s.bx.length:=by omega
 have HNE:=Zd hn;clear hn;obtain⟨b0,off0,e0,hbl,hcs⟩:=Ub hFr.in (k:=0) (by simp)
 simp at e0
 obtain⟨rfl,rfl⟩:=e0;have d0:W.cell? ⟨g,0,none⟩=some (.int .i64 t1):=(hcs 0 (by simp)).1;have d1:W.cell? ⟨g,1,none⟩=some (.int .i64 t2):=(hcs 0 (by simp)).2.1;have d2:W.cell? ⟨g,2,none⟩=some (.int .i64 t3):=(hcs 0 (by simp)).2.2;have hb0:=Qf W (.cells #[.string nm,.int .i64 kd,.int .i64 sa,.int .i64 sb,.int .i64 cp,.slice nxo nx.length nxc] 27) (.cells #[.int .i64 t1,.int .i64 t2,.int .i64 t3] 163);have N0:=(Bx.new (w:=W) [.string nm,.int .i64 kd,.int .i64 sa,.int .i64 sb,.int .i64 cp,.slice nxo nx.length nxc] 27 rfl).alloc (.cells #[.int .i64 t1,.int .i64 t2,.int .i64 t3] 163);have hsz1:(W.alloc (.cells #[.string nm,.int .i64 kd,.int .i64 sa,.int .i64 sb,.int .i64 cp,.slice nxo nx.length nxc] 27)).heap.size=W.1.size+1:=by simp
 have T0:=Bx.new (w:=W.alloc (.cells #[.string nm,.int .i64 kd,.int .i64 sa,.int .i64 sb,.int .i64 cp,.slice nxo nx.length nxc] 27)) [.int .i64 t1,.int .i64 t2,.int .i64 t3] 163 rfl;obtain⟨V,hV⟩:=nmd ((W.alloc (.cells #[.string nm,.int .i64 kd,.int .i64 sa,.int .i64 sb,.int .i64 cp,.slice nxo nx.length nxc] 27)).alloc (.cells #[.int .i64 t1,.int .i64 t2,.int .i64 t3] 163));rw[←hV]at hb0 N0 T0;rw[hsz1]at T0;have HV:=Zd hV;have HB0:=Zd hb0;have HN0:=Zd N0;have HT0:=Zd T0;have m1:=N0.c 1 rfl;have m2:=N0.c 2 rfl;have m3:=N0.c 3 rfl;have u1':=T0.c 1 rfl;have hVs:V.1.size=W.1.size+2:=by rw[hV];simp
 have HVs:=Zd hVs;have HAV:=Zd (HAP.o V);clear hV hb0 N0 T0 hsz1 hVs hA hst hin hcs hFr hgo hsl hq1 ex e9 HAP hnx hrg hc9;go_enter func179,ntmps179;go_wp2_with fail;rw[←HV.o];refine HAV.o.mono ?_;rintro e w3 ⟨⟨o,c,rfl,hoc,hfr⟩,hb3⟩;have B3:Below W.1.size W w3:=HB0.o.trans (hb3.mono HB0.o.size);have HB3:=Zd B3;have HF3:=Zd (h.later B3);have HN3:=Zd (HN0.o.later hb3);have HT3:=Zd (HT0.o.later hb3);have HFR:=Zd hfr;have hV3:V.1.size≤w3.1.size:=hb3.size;clear B3 hfr hb3 HAV m1 m2 m3 u1' c0 c4 ck d0 d1 d2 n0 n1 n2 n3 n4 n5 HN0 HT0
 try dsimp only
 cases fl
 case true =>
  have HRf:Zi (Qk (ts.map Zz) s (k:Int)=(0,Kw s k t1 t2 t3 r)):=HRS.o.trans (if_pos rfl);have HFF:=Zd (Ci lo w3 p bb _ xs ev fv uv s k t1 t2 t3 r HF3.o hk hbx hmany (by omega) hfu h0 h1 h3 h4);go_wp2_with fail;refine HFF.o.mono ?_;rintro e w4 ⟨rfl,hs4⟩;have HS4:=Zd (FStepS.start h HB3.o hs4);clear hs4;go_wp2;go_ret;rw[HRf.o];exact⟨rfl,HS4.o⟩
 case false =>
  have HR1:=Zd (HRS.o.trans (if_neg (by simp)));have q5:=HN3.o.c 5 rfl;clear HRS;go_wp2;clear q5
  go_loopw [47] (fun i wr=>∃m:Nat,m≤nx.length∧i=.int .i64 (m:Int)∧Zi (Below w3.1.size w3 wr)∧Zi (∀j,j<m→¬Wa (ts.map Zz) (el nx j).toNat-((el s.bx (el nx j).toNat).length:Int)<(out.length:Int))) (fun i _=>nx.length-(intOf i).toNat)
  case atStart=>exact⟨0,Nat.zero_le _,rfl,Below.refl _ _,fun j hj=>absurd hj (Nat.not_lt_zero _)⟩
  case round =>
   obtain⟨m,hm,rfl,hB,hA⟩:=hrel
   by_cases hlt:m<nx.length
   ·have hmi:(m:Int)<(nx.length:Int):=by omega
    obtain⟨nb,noff,rfl,hnb,hnc⟩:=Zo HNX.o hlt;have HBW:=Zd (HB3.o.trans (hB.o.mono HB3.o.size));obtain⟨j,hj,hx⟩:=HRG.o (el nx m) (Zl hlt);have cm:=(HBW.o.cell (p:=⟨nb,noff+m,none⟩) (Nat.lt_of_lt_of_le hnb hlo)).trans (hnc m hlt);rw[hx]at cm;have HX:=Zd hx;have hjb:j<s.bx.length:=by omega
    have hji:(j:Int)<(s.bx.length:Int):=by omega
    have hjg:(j:Int)<(ts.length:Int):=by omega
    have FW:=h.later HBW.o;have x0:=FW.box.c 0 rfl;have x4:=FW.box.c 4 rfl;have xk:=(FW.head hjb).1;obtain⟨jo,jc,jsl,_,_⟩:=FW.hnd.slice hjb;rw[jsl]at xk;have hTe:=Kl hjb;have hcp:=HCAP.o j hj;have xc:=(HBW.o.cell (p:=⟨gb,goff+j*6+4,none⟩) (Nat.lt_of_lt_of_le hb9 hlo)).trans hcp.1;have hc2:=hcp.2;have hA2:Zi (∀i,i<m→¬Wa (ts.map Zz) (el nx i).toNat-((el s.bx (el nx i).toNat).length:Int)<(out.length:Int)):=hA;have HJ:Zi (Wa (ts.map Zz) (el nx m).toNat-((el s.bx (el nx m).toNat).length:Int)=Wa (ts.map Zz) j-((el s.bx j).length:Int)):=by rw[Zi,hx,Int.toNat_natCast]
    have hw:IntKind.i64.wrap (Wa (ts.map Zz) j-((el s.bx j).length:Int))=Wa (ts.map Zz) j-((el s.bx j).length:Int):=by rw[IntKind.wrap_i64];omega
    clear hA FW hnc hx jsl hcp hTe
    generalize Wa (ts.map Zz) j=cpj at xc hc2 HJ hw
    generalize(el s.bx j).length=lj at xk HJ hw
    by_cases hbl2:cpj-(lj:Int)<(out.length:Int)
    ·have hd:decide (cpj-(lj:Int)<(out.length:Int))=true:=by simpa using hbl2
     go_wp2_with fail
     go_quiet (fail)
     go_wp2;go_ret;have hbk:blkP (ts.map Zz) s.bx k (out.length:Int)=true:=by
      rw[blkP,List.any_eq_true,HNP.o];exact⟨el nx m,Zl hlt,by rw[HJ.o];exact decide_eq_true hbl2⟩
     rw[HR1.o,if_pos hbk];exact⟨rfl,FStepS.same h (Zc HBW.o _)⟩
    ·have hd:decide (cpj-(lj:Int)<(out.length:Int))=false:=by simpa using hbl2
     go_wp2_with fail
     go_quiet (fail)
     go_wp2;go_roundw
     case rel=>exact⟨m+1,by omega,by go_num,Zc hB.o _,fun i hi=>by
      rcases Nat.lt_succ_iff_lt_or_eq.1 hi with h8|rfl
      ·have q:=hA2.o i h8;omega
      ·have q:=HJ.o;omega⟩
     case measure=>simp[intOf];omega
   ·obtain rfl:m=nx.length:=by omega
    have hbk:¬blkP (ts.map Zz) s.bx k (out.length:Int)=true:=by
     rw[blkP,List.any_eq_true,HNP.o];rintro⟨x,hx,hd⟩;obtain⟨j,hj,rfl⟩:=Gx hx;exact hA.o j hj (of_decide_eq_true hd)
    have HR2:=Zd (HR1.o.trans (if_neg hbk));have HB4:=Zd (HB3.o.trans (hB.o.mono HB3.o.size));have HN4:=Zd (HN3.o.later hB.o);have HT4:=Zd (HT3.o.later hB.o);have HFR4:=Zd (HFR.o.later hB.o);have h34:=hB.o.size;have HFI:=Zd (Cg lo wr p bb _ xs ev fv uv s k t1 t2 t3 r (h.later HB4.o) hk hbx (by omega));have hs0:=Jb (ls:=s.bx) (k:=k) r hk;rw[hbx,List.length_cons]at hs0;obtain⟨w4,hw4⟩:=nmd (wr);rw[←hw4]at HFI HFR4 HT4 HN4 HB4 h34 ⊢;clear HR1 hbk hA hB hw4 wr;go_wp2_with fail;refine HFI.o.mono ?_;rintro e w5 ⟨rfl,hs5⟩;obtain⟨s1,hs1⟩:∃s1:PP,s1={ s with bx:=s.bx.set k r }:=⟨_,rfl⟩;rw[←hs1]at hs5 HR2;have e1:s1.bx.length=ts.length:=by rw[hs1];exact(List.length_set ..).trans HNE.o
    have e2:Zs s1.bx+1=Zs s.bx:=by rw[hs1];show Zs (s.bx.set k r)+1=_;omega
    have e3:s1.em.length=s.em.length:=by rw[hs1]
    have HE:=Zd (And.intro e1 (And.intro e2 e3));obtain⟨bb5,xs5,ev5,fv5,uv5,X5⟩:=hs5.fx;have HX5:=Zd X5;clear hs5 HFI hs1 X5 e1 e2 e3 hs0;go_wp2
    go_loopw [78] (fun i wr=>∃(m:Nat)(bb2:Nat)(xs2:List Value)(ev2 fv2 uv2:Value),m≤out.length∧i=.int .i64 (m:Int)∧Zi (FX lo p (.slice (some ⟨gb,goff,none⟩) ts.length gc) (FO p bb xs ev fv uv) w4 wr bb2 xs2 ev2 fv2 uv2 (Zu (ts.map Zz) k t1 (out.take m) s1))) (fun i _=>out.length-(intOf i).toNat)
    case atStart=>exact⟨0,_,_,_,_,_,Nat.zero_le _,rfl,HX5⟩
    case round =>
     obtain⟨m,bb2,xs2,ev2,fv2,uv2,hm,rfl,hS⟩:=hrel
     rename World=>wq
     by_cases hlt:m<out.length
     ·have hmi:(m:Int)<(out.length:Int):=by omega
      obtain⟨g2,eg2,hg4,hg5,hg6,_⟩:=HFR4.o.at (by omega);obtain⟨ob,ooff,eo,hob,honc⟩:=Zo HFR4.o.in hlt;obtain⟨rfl,rfl⟩:g2=ob∧0=ooff:=by rw[eg2]at eo;simp at eo;exact eo
      subst eg2;have hfar0:∀b,W.1.size≤b→¬FO p bb xs ev fv uv b:=fun b hb=>h.far hb
      have hfar:Zi (∀b,W.1.size≤b→b<w4.1.size→¬FO p bb2 xs2 ev2 fv2 uv2 b):=fun b h8 h9 hO=>by
       rcases hS.o.old b hO with h7|h7
       ·exact h.far h8 h7
       ·omega
      have hV0:=HVs.o;have kn:=hS.o.kept g2 hg6 (h.far (by omega));have km:=hS.o.kept W.1.size (by omega) (h.far (Nat.le_refl _));have kt:=hS.o.kept (W.1.size+1) (by omega) (h.far (by omega));have c9:=honc m hlt;rw[Nat.zero_add]at c9;have cm:=(World.cell?_of_block (a:=⟨g2,m,none⟩) kn).trans c9;have qn5:=(World.cell?_of_block (a:=⟨W.1.size,5,none⟩) km).trans (HN4.o.c 5 rfl);have qt0:=(World.cell?_of_block (a:=⟨W.1.size+1,0,none⟩) kt).trans (HT4.o.c 0 rfl);obtain⟨v,hv⟩:=nmd (el out m);rw[←hv]at cm;have HT:=Zd (Zy hlt);rw[←hv]at HT;obtain⟨sm,hsm⟩:=nmd (Zu (ts.map Zz) k t1 (out.take m) s1);have HSN:Zi (Zu (ts.map Zz) k t1 (out.take (m+1)) s1=Kb (ts.map Zz) sm k t1 v):=by rw[Zi,HT.o,Ga,hsm]
      have a11:sm.bx.length≤ts.length:=by rw[hsm,Wx,HE.o.1];exact Nat.le_refl _
      have a12:ts.length≤sm.bx.length:=by rw[hsm,Wx,HE.o.1];exact Nat.le_refl _
      have a2:Zs sm.bx≤Zs s1.bx+30:=by
       have q:=Ys t1 (by rw[List.length_map];exact hkt) hG.edg (out.take m) s1 (by rw[List.length_map];exact HE.o.1);have hlm:(out.take m).length=m:=by simp;omega
       rw[hsm];omega
      have a3:sm.em.length≤s.em.length+3:=by
       have q:=Nj (ts.map Zz) k t1 (out.take m) s1;have hlm:(out.take m).length=m:=by simp;omega
       have q3:=HE.o.2.2;rw[hsm];omega
      have a4:Zs sm.bx≤99999:=by have q:=HE.o.2.1;omega
      rw[←hsm]at hS;clear hfar0 kn km kt honc hv hsm HT a2 c9
      by_cases h00:nx.length=0
      ·have HL0:Zi (Kb (ts.map Zz) sm k t1 v={ sm with em:=sm.em++[(t1,(k:Int),v)] }):=by rw[Zi,Kb,HNP.o,if_pos h00]
       rw[h00]at qn5;have H00:=Zd h00;obtain⟨eao,eac,hev,hen,_⟩:=hS.o.flow.emo.fresh;have c5:=hS.o.flow.box.c 5 rfl;rw[hev]at c5;have hpq:=hS.o.flow.box.size;have hloq:=hS.o.flow.lo_le;have hnw:ev2.ownBlock≠some (W.1.size+1):=fun e=>hfar.o _ (by omega) (by omega) (.inr (.inr (.inr (.inl e))))
       have hnp:ev2.ownBlock≠some p:=hS.o.flow.pe;have HEV:=Zd hev;have hwq:W.1.size+1<wq.1.size:=by have:=hS.o.low.size;omega
       rw[hev]at hnw hnp
       try dsimp only at hnw hnp
       have HX0:=Zd hS.o;clear hev hS h00;go_wp2_with fail;refine Qq (zl:=[16]) (S:=fun Y=>Y.cell? ⟨p,5,none⟩=some (.slice eao sm.em.length eac)∧Y.cell? ⟨(W.1.size+1),0,none⟩=some (.int .i64 t1)) (by kernel_rfl) ⟨c5,qt0⟩ (fun hH=>?_);refine Zq 0 hH ?_;refine Zq 1 hH ?_;refine Zq 2 hH ?_;refine Zq 3 hH ?_;refine Zq 4 hH ?_;refine Zq 5 hH ?_;refine Zq 6 hH ?_;refine Zq 7 hH ?_;refine Zq 8 hH ?_;refine Zq 9 hH ?_;refine Zq 10 hH ?_;refine Walks.on 11 fun K hK=>?_
       go_simp;obtain⟨U,hU⟩:=nmd ((wq.alloc (.cells #[.int .i64 t1,.int .i64 (k:Int),.int .i64 v] 138)).drew);rw[←hU];have hbU:Below wq.1.size wq U:=by rw[hU];exact(Zk wq _).drew
       have hN:kOu.In U.1.size U (some ⟨wq.1.size,0,none⟩) [(t1,(k:Int),v)]:=by
        have hx:Bx U wq.1.size [.int .i64 t1,.int .i64 (k:Int),.int .i64 v]:=by rw[hU];exact(Bx.new (w:=wq) [.int .i64 t1,.int .i64 (k:Int),.int .i64 v] 138 rfl).drew
        exact kOu_one hx.size (hx.c 0 rfl) (hx.c 1 rfl) (hx.c 2 rfl)
       have hUs:=hbU.size;have SU:U.cell? ⟨p,5,none⟩=some (.slice eao sm.em.length eac)∧U.cell? ⟨(W.1.size+1),0,none⟩=some (.int .i64 t1):=⟨(hbU.cell (p:=⟨p,5,none⟩) hpq).trans c5,(hbU.cell (p:=⟨(W.1.size+1),0,none⟩) hwq).trans qt0⟩;refine hK.out _ _ (fun _=>SU) (fun _=>?_);clear hK K hU;have hOU:kOu.Own lo U (.slice eao sm.em.length eac) sm.em:=by rw[←HEV.o];exact(HX0.o.later hbU).flow.emo
       refine Walks.on 12 fun K hK=>?_
       refine Je kOu_ok U (by rfl) (.tmp 91) (.tmp 97) (by rfl) lo (.slice eao sm.em.length eac) sm.em (by rfl) hOU (by omega) (some ⟨wq.1.size,0,none⟩) [(t1,(k:Int),v)] 1 1 (by rfl) rfl (by simp) _ hN (by rw[List.length_singleton];omega) ?_;intro v' w6 hO2 hB2 hG2 hw2;obtain⟨L2,hL2⟩:=nmd (sm.em++[(t1,(k:Int),v)]);rw[←hL2]at hO2;have HL2:=Zd hL2;clear hL2;obtain⟨vo,vc,hv',_,_⟩:=hO2.fresh;have S2:w6.cell? ⟨p,5,none⟩=some (.slice eao sm.em.length eac)∧w6.cell? ⟨(W.1.size+1),0,none⟩=some (.int .i64 t1):=⟨(World.cell?_of_block (a:=⟨p,5,none⟩) (hG2.block p (Nat.lt_of_lt_of_le hpq hUs) (fun e=>hnp e.symm))).trans SU.1,(World.cell?_of_block (a:=⟨(W.1.size+1),0,none⟩) (hG2.block (W.1.size+1) (Nat.lt_of_lt_of_le hwq hUs) (fun e=>hnw e.symm))).trans SU.2⟩;refine hK.out _ _ (fun _=>S2) (fun _=>?_);clear hK K;refine Walks.on 13 fun K hK=>?_
       go_simp;refine hK.out _ _ (fun _=>S2) (fun _=>?_);clear hK K;refine Walks.on 14 fun K hK=>?_
       go_simp;refine hK.out _ _ (fun _=>S2) (fun _=>?_);clear hK K;refine Zq 15 S2 ?_;refine Walks.on 16 fun K hK=>?_
       have FU:=(HX0.o.later hbU).flow;have f5:w6.frozen? ⟨p,5,none⟩=false:=(World.frozen?_of_block (a:=⟨p,5,none⟩) (hG2.block p (Nat.lt_of_lt_of_le hpq hUs) (fun e=>hnp e.symm))).trans (FU.box.f 5 rfl);have HX2:=Zd ((HX0.o.later hbU).trans (FU.putEm hO2 hB2 (by rw[HEV.o];exact hG2) (by rw[HEV.o];exact hw2)));have c52:=S2.1;rw[hv']at HX2
       (try rw[hv'])
       go_simp;refine hK.out _ _ (fun h=>absurd h (by decide)) (fun _=>?_);refine Walks.done (by kernel_rfl) ?_ _;clear hK K;obtain⟨w7,h7⟩:=nmd (w6.setCell ⟨p,5,none⟩ (.slice vo L2.length vc));rw[←h7]at HX2 ⊢;rw[HL2.o,←HL0.o,←HSN.o]at HX2;have km:=HX2.o.kept W.1.size (by omega) (h.far (Nat.le_refl _));have qn5':=(World.cell?_of_block (a:=⟨W.1.size,5,none⟩) km).trans (HN4.o.c 5 rfl);rw[H00.o]at qn5';clear h7 FU S2 SU hOU hN hbU hO2 hB2 hG2 hw2 f5 c52 c5 qn5 qt0 cm km HX0;go_wp2
       go_loopw [105] (fun i wr=>i=.int .i64 0∧Zi (FX lo p (.slice (some ⟨gb,goff,none⟩) ts.length gc) (FO p bb xs ev fv uv) w4 wr _ _ _ _ _ (Zu (ts.map Zz) k t1 (out.take (m+1)) s1))) (fun _ _=>0)
       case atStart=>exact⟨rfl,HX2⟩
       case round =>
        obtain⟨rfl,hS⟩:=hrel;go_wp2;go_roundw
        case rel=>exact⟨m+1,_,_,_,_,_,by omega,by go_num,hS⟩
        case measure=>simp[intOf];omega
      ·have HL0:Zi (Kb (ts.map Zz) sm k t1 v={ sm with bx:=Jk (t1,v,0) sm.bx nx }):=by rw[Zi,Kb,HNP.o,if_neg h00]
       have hd0:((nx.length:Int)==0)=false:=by simpa using h00
       go_wp2
       go_loopw [105] (fun i wr=>∃(q:Nat)(bb3:Nat)(xs3:List Value)(ev3 fv3 uv3:Value),q≤nx.length∧i=.int .i64 (q:Int)∧Zi (FX lo p (.slice (some ⟨gb,goff,none⟩) ts.length gc) (FO p bb xs ev fv uv) w4 wr bb3 xs3 ev3 fv3 uv3 { sm with bx:=Jk (t1,v,0) sm.bx (nx.take q) })) (fun i _=>nx.length-(intOf i).toNat)
       case atStart=>exact⟨0,_,_,_,_,_,Nat.zero_le _,rfl,hS⟩
       case round =>
        obtain⟨q,bb3,xs3,ev3,fv3,uv3,hq,rfl,hS3⟩:=hrel
        by_cases hlq:q<nx.length
        ·have hqi:(q:Int)<(nx.length:Int):=by omega
         obtain⟨nb,noff,rfl,hnb,hnc⟩:=Zo HNX.o hlq;have cq:=(hS3.o.low.cell (p:=⟨nb,noff+q,none⟩) hnb).trans ((HB4.o.cell (p:=⟨nb,noff+q,none⟩) (Nat.lt_of_lt_of_le hnb hlo)).trans (hnc q hlq));obtain⟨j,hj,hx⟩:=HRG.o (el nx q) (Zl hlq);rw[hx]at cq;have HTQ:=Zd (Zy hlq);rw[hx]at HTQ;have hpl:=Yq (t1,v,0) (nx.take q) sm.bx;have hpt:=Gr (t1,v,0) (nx.take q) sm.bx (fun x hx=>by obtain⟨i,hi,e⟩:=HRG.o x (List.mem_of_mem_take hx);exact⟨i,by omega,e⟩);have hlm:(nx.take q).length=q:=by simp;omega
         obtain⟨sq,hsq⟩:∃sq:PP,sq={ sm with bx:=Jk (t1,v,0) sm.bx (nx.take q) }:=⟨_,rfl⟩;have hjb:j<sq.bx.length:=by rw[hsq];dsimp only;omega
         have hji:(j:Int)<(sq.bx.length:Int):=by omega
         have htq:Zs sq.bx≤100009:=by rw[hsq];dsimp only;omega
         have HNQ:Zi ({ sq with bx:=sq.bx.set j (el sq.bx j++[(t1,v,0)]) }=({ sm with bx:=Jk (t1,v,0) sm.bx (nx.take (q+1)) }:PP)):=by
          rw[Zi,HTQ.o,Pv,Int.toNat_natCast,hsq]
         rw[←hsq]at hS3;have hTe:=Kl hjb;have FQ:=hS3.o.flow;have c4:=FQ.box.c 4 rfl;have ck:=(FQ.head hjb).1;obtain⟨ho3,hc3,hsl3,hn3,_⟩:=FQ.hnd.slice hjb;rw[hsl3]at ck;have hpq:=FQ.box.size;have hbq:=FQ.hnd.size;have hx3:j<xs3.length:=by rw[FQ.hnd.len];exact hjb
         have hnw:(el xs3 j).ownBlock≠some (W.1.size+1):=fun e=>by
          rcases hS3.o.old _ (.inr (.inr (.inl ⟨j,hx3,e⟩)))with h7|h7
          ·exact h.far (by omega) h7
          ·omega
         have hnp:(el xs3 j).ownBlock≠some p:=FQ.px j hjb;have hnb3:(el xs3 j).ownBlock≠some bb3:=FQ.bbx hjb;have HSL3:=Zd hsl3;have kt:=hS3.o.kept (W.1.size+1) (by omega) (h.far (by omega));have qt0':=(World.cell?_of_block (a:=⟨W.1.size+1,0,none⟩) kt).trans (HT4.o.c 0 rfl);have hwr:W.1.size+1<wr.1.size:=by have:=hS3.o.low.size;omega
         rw[hsl3]at hnw hnp hnb3;obtain⟨RW,hRW⟩:=nmd (el sq.bx j);rw[←hRW]at ck hnw hnp hnb3 HNQ HSL3 hTe
         try dsimp only at hnw hnp hnb3
         have HRW:=Zd hRW;have HS3:=Zd hS3.o;clear hsl3 hS3 FQ hRW hsq hpl hpt hlm hx kt hnc;go_wp2_with fail;refine Qq (zl:=[21]) (S:=fun Y=>Y.cell? ⟨p,4,none⟩=some (.slice (some ⟨bb3,0,none⟩) sq.bx.length sq.bx.length)∧Y.cell? ⟨bb3,j,none⟩=some (.slice ho3 RW.length hc3)∧Y.cell? ⟨(W.1.size+1),0,none⟩=some (.int .i64 t1)) (by kernel_rfl) ⟨c4,ck,qt0'⟩ (fun hH=>?_);refine Zq 0 hH ?_;refine Zq 1 hH ?_;refine Zq 2 hH ?_;refine Zq 3 hH ?_;refine Zq 4 hH ?_;refine Zq 5 hH ?_;refine Zq 6 hH ?_;refine Zq 7 hH ?_;refine Zq 8 hH ?_;refine Zq 9 hH ?_;refine Zq 10 hH ?_;refine Zq 11 hH ?_;refine Zq 12 hH ?_;refine Zq 13 hH ?_;refine Zq 14 hH ?_;refine Zq 15 hH ?_;refine Zq 16 hH ?_;refine Zq 17 hH ?_;refine Walks.on 18 fun K hK=>?_
         go_simp;obtain⟨U,hU⟩:=nmd ((wr.alloc (.cells #[.int .i64 t1,.int .i64 v,.int .i64 0] 163)).drew);rw[←hU];have hbU:Below wr.1.size wr U:=by rw[hU];exact(Zk wr _).drew
         have hN:kTk.In U.1.size U (some ⟨wr.1.size,0,none⟩) [(t1,v,0)]:=by
          have hx:Bx U wr.1.size [.int .i64 t1,.int .i64 v,.int .i64 0]:=by rw[hU];exact(Bx.new (w:=wr) [.int .i64 t1,.int .i64 v,.int .i64 0] 163 rfl).drew
          exact kTk_one hx.size (hx.c 0 rfl) (hx.c 1 rfl) (hx.c 2 rfl)
         have hUs:=hbU.size;have SU:U.cell? ⟨p,4,none⟩=some (.slice (some ⟨bb3,0,none⟩) sq.bx.length sq.bx.length)∧U.cell? ⟨bb3,j,none⟩=some (.slice ho3 RW.length hc3)∧U.cell? ⟨(W.1.size+1),0,none⟩=some (.int .i64 t1):=⟨(hbU.cell (p:=⟨p,4,none⟩) hpq).trans c4,(hbU.cell (p:=⟨bb3,j,none⟩) hbq).trans ck,(hbU.cell (p:=⟨(W.1.size+1),0,none⟩) hwr).trans qt0'⟩;refine hK.out _ _ (fun _=>SU) (fun _=>?_);clear hK K hU;have hOU:kTk.Own (bb3+1) U (.slice ho3 RW.length hc3) RW:=by rw[←HSL3.o,HRW.o];exact(HS3.o.later hbU).flow.hnd.row j hjb
         refine Walks.on 19 fun K hK=>?_
         refine Je Mt U (by rfl) (.tmp 122) (.tmp 127) (by rfl) (bb3+1) (.slice ho3 RW.length hc3) RW (by rfl) hOU (by omega) (some ⟨wr.1.size,0,none⟩) [(t1,v,0)] 1 1 (by rfl) rfl (by simp) _ hN (by rw[List.length_singleton];omega) ?_;intro v' w6 hO2 hB2 hG2 hw2;obtain⟨L2,hL2⟩:=nmd (RW++[(t1,v,0)]);rw[←hL2]at hO2;have HL2:=Zd hL2;clear hL2;obtain⟨vo,vc,hv',_,_⟩:=hO2.fresh;have S2:w6.cell? ⟨p,4,none⟩=some (.slice (some ⟨bb3,0,none⟩) sq.bx.length sq.bx.length)∧w6.cell? ⟨bb3,j,none⟩=some (.slice ho3 RW.length hc3)∧w6.cell? ⟨(W.1.size+1),0,none⟩=some (.int .i64 t1):=⟨(World.cell?_of_block (a:=⟨p,4,none⟩) (hG2.block p (Nat.lt_of_lt_of_le hpq hUs) (fun e=>hnp e.symm))).trans SU.1,(World.cell?_of_block (a:=⟨bb3,j,none⟩) (hG2.block bb3 (Nat.lt_of_lt_of_le hbq hUs) (fun e=>hnb3 e.symm))).trans SU.2.1,(World.cell?_of_block (a:=⟨(W.1.size+1),0,none⟩) (hG2.block (W.1.size+1) (Nat.lt_of_lt_of_le hwr hUs) (fun e=>hnw e.symm))).trans SU.2.2⟩;refine hK.out _ _ (fun _=>S2) (fun _=>?_);clear hK K;refine Zq 20 S2 ?_;refine Walks.on 21 fun K hK=>?_
         have FU:=(HS3.o.later hbU).flow;have fB:w6.frozen? ⟨bb3,j,none⟩=false:=(World.frozen?_of_block (a:=⟨bb3,j,none⟩) (hG2.block bb3 (Nat.lt_of_lt_of_le hbq hUs) (fun e=>hnb3 e.symm))).trans (FU.head hjb).2;have HX2:=Zd ((HS3.o.later hbU).trans (FU.putRow hjb hO2 (hB2.mono (by have:=FU.lob;omega)) (by rw[HSL3.o];exact hG2) (by rw[HSL3.o];exact hw2)));have cB2:=S2.2.1;rw[hv']at HX2
         (try rw[hv'])
         go_simp;refine hK.out _ _ (fun h=>absurd h (by decide)) (fun _=>?_);refine Walks.done (by kernel_rfl) ?_ _;clear hK K;have HX3:Zi (FX lo p (.slice (some ⟨gb,goff,none⟩) ts.length gc) (FO p bb xs ev fv uv) w4 (w6.setCell ⟨bb3,j,none⟩ (.slice vo L2.length vc)) bb3 (xs3.set j (.slice vo L2.length vc)) ev3 fv3 uv3 { sm with bx:=Jk (t1,v,0) sm.bx (nx.take (q+1)) }):=by
          rw[Zi,←HNQ.o,←HL2.o];exact HX2.o
         clear HX2 FU S2 SU hOU hN hbU hO2 hB2 hG2 hw2 fB cB2 c4 ck qt0' HNQ HS3;go_wp2;go_roundw
         case rel=>exact⟨q+1,_,_,_,_,_,by omega,by go_num,HX3⟩
         case measure=>simp[intOf];omega
        ·obtain rfl:q=nx.length:=by omega
         rw[List.take_length]at hS3;rw[←HL0.o,←HSN.o]at hS3;go_wp2;go_roundw
         case rel=>exact⟨m+1,_,_,_,_,_,by omega,by go_num,hS3⟩
         case measure=>simp[intOf];omega
     ·obtain rfl:m=out.length:=by omega
      rw[List.take_length]at hS;go_wp2;go_ret;rw[HR2.o];exact⟨rfl,FStepS.start h HB4.o hS.o.step⟩
end Go.Proofs.YtdacedbfnlkghaaGreatDoor