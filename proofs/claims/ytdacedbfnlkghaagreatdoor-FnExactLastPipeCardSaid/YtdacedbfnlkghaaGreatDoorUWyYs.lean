/- The widest of a graph: the program. A pipe begins. What a pipe may hold that a move is played on. A move goes to the function of its kind. No conditions but those written. -/
import Derived.Test.YtdacedbfnlkghaaGreatDoorUWxRd
namespace Go.Proofs.YtdacedbfnlkghaaGreatDoor
set_option maxHeartbeats 8000000
set_option maxRecDepth 100000
open Go.RowKit Go.Proofs.Tryz
section
open Go.RowKit Go.Shelf
attribute [local go_sem] Oper.semAt_some
theorem Bx.kept{W W':World}{p:Nat}{us:List Value}{row:Option Nat}(h:Bx W p us)(hg:W.grownBy W' row)(hr:∀r,row=some r→∃o:Obj,W.heap[r]? = some o∧o.isCells=false):Bx W' p us :=
 ⟨Nat.lt_of_lt_of_le h.1 hg.size,fun i v hv=>⟨cell_kept (h.2 i v hv).1 hg hr,(frozen_kept (h.2 i v hv).1 hg hr).trans (h.2 i v hv).2⟩⟩
theorem Yt{W W':World}(h:Below W.1.size W W'):KeepsOthers W W':=⟨h.size,fun k _ hk _=>(h.block k (Array.getElem?_eq_some_iff.1 hk).1).trans hk⟩
def Nc(R:List Int)(pre:List Nat):List Int:=pre.map (el R.reverse)
structure WInv(gs:List PNode)(R:List Int)(B P S:Nat)(gv pv:Value)(pre:List Nat)(W:World):Prop where
 len:pre.length≤R.length
 box:Bx W B [gv]
 wid:Bx W P [pv]
 cnt:Bx W (B+1) ((wdOf gs (Nc R pre)).map (Value.int .i64))
 siz:S≤W.1.size
theorem WInv.kept{gs:List PNode}{R:List Int}{B P S:Nat}{gv pv:Value}{pre:List Nat}{W W':World}{row:Option Nat}(h:WInv gs R B P S gv pv pre W)(hg:W.grownBy W' row)(hr:∀r,row=some r→∃o:Obj,W.heap[r]? = some o∧o.isCells=false):WInv gs R B P S gv pv pre W' :=
 ⟨h.len,h.box.kept hg hr,h.wid.kept hg hr,h.cnt.kept hg hr,Nat.le_trans h.siz hg.size⟩
theorem el_rng{gs:List PNode}{R:List Int}(hr:∀x∈R.reverse,∃j:Nat,j<gs.length∧x=(j:Int))(h1:1≤gs.length)(x:Nat):∃j:Nat,j<gs.length∧el R.reverse x=(j:Int):=by
 by_cases hx:x<R.reverse.length
 ·exact hr _ (Zl hx)
 ·refine⟨0,by omega,?_⟩;rw[el,List.getElem?_eq_none (by omega)];rfl
theorem rowOf_rng{gs:List PNode}{R:List Int}(hr:∀x∈R.reverse,∃j:Nat,j<gs.length∧x=(j:Int))(h1:1≤gs.length)(pre:List Nat):∀x∈Nc R pre,∃j:Nat,j<gs.length∧x=(j:Int):=fun x hx=>by
 obtain⟨i,_,rfl⟩:=List.mem_map.1 hx;exact el_rng hr h1 i
theorem rowOf_all(R:List Int):Nc R (List.range R.length)=R.reverse:=by
 refine List.ext_getElem (by simp[Nc]) fun i h2 h3=>?_
 have hi:i<R.reverse.length:=h3;simp only[Nc,List.getElem_map,List.getElem_range];rw[Km hi]
theorem Yh(ao:Option Addr)(cap:Nat)(ts:List LNode)(w:World)(hF:FitN ts)(h1:1≤ts.length)(hE:EdgesIn (ts.map Zz))(hz:DIn Ja w.1.size w ao ts) :
  Calls prog 162 #[.slice ao ts.length cap] w fun e w'=>e=.returned (.int .i64 (Ue (ts.map Zz)))∧Below w.1.size w w':=by
 have h10:ts.length≤10:=by have:=hE.many;simpa using this
 have HRO:=Zd (orderP_ro (gs:=ts.map Zz) (by rw[Zb];exact h10));have HE:=Zd hE;have HZ:=Zd hz;have HFi:=Zd hF;clear hz hE hF;refine(callsIn_wide (n:=6)).1 ?_;have hro:Fence.wide.round=none:=rfl;refine callsIn_of_wp_marks func162 rfl trivial ?_ hro;simp only[ntmps162,List.size_toArray,List.length_cons,List.length_nil,Nat.reduceAdd,Nat.reduceSub,Array.replicate_succ,Array.replicate_zero,List.push_toArray,List.append_toArray,List.nil_append,List.cons_append];have HG:Zi (Bx (w.alloc (.cells #[.slice ao ts.length cap] 39)) w.1.size [.slice ao ts.length cap]):=Bx.new [.slice ao ts.length cap] _ rfl;have HBa:=Zd (Zk w (.cells #[.slice ao ts.length cap] 39))
 gi_wp2_with (gi_at_make;refine make_in (w.alloc (.cells #[.slice ao ts.length cap] 39)) rfl _ _ rfl ts.length rfl rfl (by omega) ?_;intro w1 hX1 hB1;have hX1':Bx w1 (w.1.size+1) ((List.replicate ts.length (0:Int)).map (Value.int .i64)):=(by simpa using hX1);have X1:=Zd hX1';have G1:=Zd (HG.o.later hB1);have g0:=G1.o.c 0 rfl;have B1:=Zd (HBa.o.trans (hB1.mono (by simp)));have hs1:=hX1'.size;have hs0:=G1.o.size;clear hX1 hX1' hB1)
 obtain⟨W2,hW2⟩:=nmd (w1.alloc (.cells #[.slice (some ⟨w.1.size+1,0,none⟩) ts.length ts.length] 25));rw[←hW2];have hb2:Below w1.1.size w1 W2:=by rw[hW2];exact Zk _ _
 have P2:Zi (Bx W2 w1.1.size [.slice (some ⟨w.1.size+1,0,none⟩) ts.length ts.length]):=by rw[Zi,hW2];exact Bx.new [.slice (some ⟨w.1.size+1,0,none⟩) ts.length ts.length] _ rfl
 have X2:=Zd (X1.o.later hb2);have G2:=Zd (G1.o.later hb2);have B2:=Zd (B1.o.trans (hb2.mono B1.o.size));clear hW2 hb2 X1 G1 B1 g0 HG HBa;refine⟨trivial,?_⟩;refine(callsIn_wide.2 (Yo ao cap ts W2 (by omega) HFi.o (HZ.o.later Zf B2.o))).mono ?_;rintro e w3 ⟨⟨go,qc,rfl,hF3⟩,hb3⟩;have P3:=Zd (P2.o.later hb3);have X3:=Zd (X2.o.later hb3);have G3:=Zd (G2.o.later hb3);have B3:=Zd (B2.o.trans (hb3.mono B2.o.size));have FR:=Zd hF3;obtain⟨R,hRR⟩:=nmd (Zv (ts.map Zz));have HW:Zi (Ue (ts.map Zz)=Nf (Vh (ts.map Zz) R.reverse R.length)):=by rw[Zi,hRR];rfl
 rw[←hRR]at HRO FR ⊢;have hRl:R.length≤10:=by have:=HRO.o.len;simpa using this
 have hs2:=P2.o.size;clear hb3 hF3 P2 X2 G2 B2 hRR
 gi_wp2_with fail
 refine⟨trivial,?_⟩;refine(callsIn_wide.2 (Hc go R.length qc w3)).mono ?_;rintro e w4 ⟨rfl,rfl⟩
 gi_wp2_with fail
 obtain⟨W4,hW4⟩:=nmd (w3.alloc (.cells #[.slice go R.length qc] 25));rw[←hW4];have hb4:Below w3.1.size w3 W4:=by rw[hW4];exact Zk _ _
 have C4:W4.cell? ⟨w3.1.size,0,none⟩=some (.slice go R.length qc):=by rw[hW4];exact(Bx.new [.slice go R.length qc] _ rfl).c 0 rfl
 have S4:W4.1.size=w3.1.size+1:=by rw[hW4];simp
 have P4:=Zd (P3.o.later hb4);have X4:=Zd (X3.o.later hb4);have G4:=Zd (G3.o.later hb4);have B4:=Zd (B3.o.trans (hb4.mono B3.o.size));have hp1:=P3.o.size;obtain⟨b,hbne,hbW,hbI⟩:∃b,b≠w.1.size+1∧b<W4.1.size∧(R=[]∨∃off,go=some ⟨b,off,none⟩∧b<W4.1.size∧∀j,j<R.length→W4.cell? ⟨b,off+j,none⟩=some (.int .i64 (el R j))):=by
  rcases Nat.eq_zero_or_pos R.length with h|h
  ·exact⟨w3.1.size,by omega,by omega,.inl (List.length_eq_zero_iff.1 h)⟩
  ·obtain⟨b,e,hlow,_,hlt,_⟩:=FR.o.at h;have hIn:=FR.o.in.later hb4;obtain⟨b2,off,e2,hb2,hc⟩:=Zo hIn h;obtain⟨rfl,e0⟩:b=b2∧0=off:=by rw[e]at e2;simp at e2;exact⟨e2.1,e2.2⟩
   subst e0;exact⟨b,by omega,hb2,.inr ⟨0,e,hb2,hc⟩⟩
 obtain⟨gs,hgs⟩:=nmd (ts.map Zz);have hgl:gs.length=ts.length:=by rw[hgs,Zb]
 have hnode:Zi (∀k,k<ts.length→∃b off nm cp nxo nxc,ao=some ⟨b,off,none⟩∧b<w.1.size∧w.cell? ⟨b,off+k*6+5,none⟩=some (.slice nxo (nxP gs k).length nxc)∧kI.In w.1.size w nxo (nxP gs k)∧w.cell? ⟨b,off+k*6+1,none⟩=some (.int .i64 (el gs k).2.1)∧w.cell? ⟨b,off+k*6+2,none⟩=some (.int .i64 (el gs k).2.2.1)∧w.cell? ⟨b,off+k*6+3,none⟩=some (.int .i64 (el gs k).2.2.2.1)∧w.cell? ⟨b,off+k*6,none⟩=some (.string nm)∧w.cell? ⟨b,off+k*6+4,none⟩=some (.int .i64 cp)):=fun k hk=>by
  obtain⟨b,off,e,hb,hc⟩:=Qw HZ.o.1 hk;have d:=hc k hk;have hin:=HZ.o.2 k hk;have hev:nxP gs k=(el ts k).2.2.2.2.2.2.2:=by rw[hgs,nxP,Jz hk];rfl
  rw[hev,hgs,Jz hk];exact⟨b,off,_,_,_,_,e,hb,d.2.2.2.2.2,hin,d.2.1,d.2.2.1,d.2.2.2.1,d.1,d.2.2.2.2.1⟩
 rw[←hgs]at HRO HE HW;have HGS:=Zd hgs;have hinv0:WInv gs R w.1.size w1.1.size W4.1.size (.slice ao ts.length cap) (.slice (some ⟨w.1.size+1,0,none⟩) ts.length ts.length) [] W4:=⟨by simp,G4.o,P4.o,by have h:=X4.o;rw[←hgl]at h;exact h,Nat.le_refl _⟩;have hB40:w.1.size≤W4.1.size:=B4.o.size;have hP1:w.1.size+1<w1.1.size:=hs1;have hP4:w1.1.size<W4.1.size:=P4.o.size;clear hW4 hb4 P3 X3 G3 B3 P4 X4 G4 hgs;refine wpIn_rangeFunc_ownG hro (by omega) (gf:=220) (lb := #[.pointer (some ⟨w3.1.size,0,none⟩)]) rfl trivial (enters_of func220 (by kernel_rfl) rfl)
  (Ct Fence.wide (6-1) trivial hro (by omega) w3.1.size b go qc R (by omega) W4 (by omega) C4 hbI) Same2.trans (fun W l o o' h1 h2 h3 h4=>⟨Us hbW W l o o' h1 h2 h3 h4,Us (by omega) W l o o' h1 h2 h3 h4⟩) (Below.refl _ _) (fun _=>rfl)
  (fun pre W=>WInv gs R w.1.size w1.1.size W4.1.size (.slice ao ts.length cap) (.slice (some ⟨w.1.size+1,0,none⟩) ts.length ts.length) pre W∧Below w.1.size w W)
  (fun _ _ _=>False)
  (OwnFrom.and (Own.from (fun s A B row hs hg hr=>hs.kept hg hr) _) (ownFrom_below (Nat.le_refl _) (by omega)))
  (fun _ _ _ _ _ hs _ _=>hs)
  ⟨hinv0,B4.o⟩
  (fun x=>{ tmps := #[.slice ao ts.length cap,.pointer (some ⟨w.1.size,0,none⟩),.int .i64 0,.pointer (some ⟨w1.1.size,0,none⟩),undef,.int .i64 (el R.reverse x),undef,undef,undef,.slice ao ts.length cap,.int .i64 (ts.length:Int),.slice (some ⟨w.1.size+1,0,none⟩) ts.length ts.length,.slice ao ts.length cap,.slice go R.length qc,.func (.func 220) #[] #[.pointer (some ⟨w3.1.size,0,none⟩)],.int .i64 ((R.length:Int)-1-(x:Int)),.int .i64 (el R.reverse x),undef,undef,undef,undef,undef,undef,undef,undef,undef,undef,undef,undef,undef,undef,undef,undef,undef,undef,undef,undef,undef,undef,undef,undef,undef,undef,undef,undef,undef,undef,undef,undef,undef,undef,undef],defers:=[] }) ?assign ?body ?done ?stop
 case assign =>
  intro l x W K hK;simp only[bkA,tvI]
  gi_wp2
  exact hK
 case body =>
  rintro l pre x W ⟨hI,hB⟩ hlen;have hmx:prog.follows .mixedOrders=true:=by kernel_rfl
  obtain⟨k,hk,ek⟩:=el_rng HRO.o.rng (by omega) x;have hBG:=Hg HE.o (rowOf_rng HRO.o.rng (by omega) pre) (by simp only[Nc,List.length_map];omega) (t:=(Nc R pre).length) (Nat.le_refl _);have hWl:=Kk gs (Nc R pre) (Nc R pre).length;rw[wdOf_all]at hBG hWl;have HSC:Zi (wdOf gs (Nc R (pre++[x]))=(wdOf gs (Nc R pre)).set k (Dg gs (wdOf gs (Nc R pre)) k)):=by
   rw[Zi,show Nc R (pre++[x])=Nc R pre++[(k:Int)]from by simp[Nc,ek],wdOf_snoc,Int.toNat_natCast]
  have HNB:=Zd (Hh HE.o hWl hBG (by omega) hk);have HL:Zi ((pre++[x]).length≤R.length):=by simp[Zi];omega
  have hX:=Zd hI.cnt;have hG:=Zd hI.box;have hP:=Zd hI.wid;have hS:=hI.siz;have g0:=hI.box.c 0 rfl;have p0:=hI.wid.c 0 rfl;obtain⟨wd,hwd⟩:=nmd (wdOf gs (Nc R pre));rw[←hwd]at HSC HNB hBG hWl hX;have HBG:=Zd hBG;clear hwd hBG hI;rw[ek];clear ek;have hkt:k<ts.length:=by rw[←hgl];exact hk
  obtain⟨b7,off,nm,cp,nxo,nxc,rfl,hb7,c6,hI,c1,c2,c3,c0,c4⟩:=hnode.o k hkt;have d6:=(hB.cell (p:=⟨b7,off+k*6+5,none⟩) hb7).trans c6;have d1:=(hB.cell (p:=⟨b7,off+k*6+1,none⟩) hb7).trans c1;have d2:=(hB.cell (p:=⟨b7,off+k*6+2,none⟩) hb7).trans c2;have d3:=(hB.cell (p:=⟨b7,off+k*6+3,none⟩) hb7).trans c3;have d0:=(hB.cell (p:=⟨b7,off+k*6,none⟩) hb7).trans c0;have d4:=(hB.cell (p:=⟨b7,off+k*6+4,none⟩) hb7).trans c4;have hrg:=HE.o.rng k hk;have hfew:=HE.o.few k hk;have hwn:Dg gs wd k=Uf (el gs k).2.1 (el gs k).2.2.1 (el gs k).2.2.2.1*(if(nxP gs k).length=0 then 1 else Dc wd (nxP gs k)):=rfl;obtain⟨nx,hnx⟩:=nmd (nxP gs k);rw[←hnx]at d6 hI hrg hfew hwn
  generalize(el gs k).2.1=kd at d1 hwn
  generalize(el gs k).2.2.1=sa at d2 hwn
  generalize(el gs k).2.2.2.1=sb at d3 hwn
  obtain⟨v,hv⟩:=nmd (Dg gs wd k);rw[←hv]at HSC HNB hwn;have HWN:=Zd hwn;have HI:=Zd (hI.later hB);have HRG:=Zd hrg;have hki:(k:Int)<(ts.length:Int):=by omega
  have hv0:=HNB.o;clear hnx c6 c1 c2 c3 c0 c4 hI hrg hwn hv
  gi_wp2
  gi_loopw [6,23] (fun u j wr2=>∃(m:Nat)(s:Int),j=.int .i64 (m:Int)∧u=.int .i64 s∧m≤nx.length∧s=Dc wd (nx.take m)∧wr2=W) (fun _ j _=>nx.length-(intOf j).toNat)
  case atStart=>exact⟨0,0,rfl,rfl,Nat.zero_le _,by rw[List.take_zero,sumW_nil],rfl⟩
  case round =>
   rename_i wr3;obtain⟨m,s,rfl,rfl,hm,hs,rfl⟩:=hrel;have hsb:=Hm HBG.o (by omega) (nx.take m) (fun x hx=>by rw[hWl];exact HRG.o x (List.mem_of_mem_take hx));rw[←hs]at hsb;have hlm:(nx.take m).length=m:=by simp;omega
   rw[hlm]at hsb
   by_cases hmk:m<nx.length
   ·have HSS:=Zd (sumW_succ (wd:=wd) hmk);obtain⟨nb,noff,rfl,hnb,hnc⟩:=Zo HI.o hmk;have cm:=hnc m hmk;obtain⟨j,hj,hx⟩:=HRG.o (el nx m) (Zl hmk);rw[hx]at cm HSS;rw[Int.toNat_natCast]at HSS;have hji:(j:Int)<(ts.length:Int):=by omega
    have cj:=hX.o.c j (Jq (by omega));have hjb:=HBG.o j (by omega)
    generalize el wd j=y at cj HSS hjb
    have hmi:(m:Int)<(nx.length:Int):=by omega
    have hs2:s+y=Dc wd (nx.take (m+1)):=by rw[HSS.o,hs]
    have HS2:=Zd hs2;clear hx hnc hs2 hs hlm
    gi_wp2
    go_roundw
    case rel=>exact⟨m+1,s+y,by go_num,rfl,by omega,HS2.o,trivial⟩
    case measure=>simp[intOf];omega
   ·obtain rfl:m=nx.length:=by omega
    rw[List.take_length]at hs;have HS:=Zd hs;clear hs hlm hmk;have hfr:=Gf kd sa sb;obtain⟨f,hf⟩:=nmd (Uf kd sa sb);rw[←hf]at hfr HWN;have HF:=Zd hf;clear hf;have X:=hX;have G:=hG;have P:=hP;have hb7_:b7<wr.1.size:=Nat.lt_of_lt_of_le hb7 hB.size
    by_cases h0:nx.length=0
    ·have h0':((nx.length:Int)==0)=true:=by simp[h0]
     have hvf:v=f:=by rw[HWN.o,if_pos h0,Int.mul_one]
     subst hvf;have hie:=Ra nm kd sa sb cp nxo nx.length nxc wr;rw[h0']at hie;clear HWN h0
     gi_wp2_with fail
     refine⟨trivial,?_⟩;refine(CallsIn.inRound l (callsIn_wide.2 hie)).mono ?_;rintro e w5 ⟨rfl,hb5⟩;have d1w5:w5.cell? ⟨b7,off+k*6+1,none⟩=some (.int .i64 kd):=(hb5.cell (p:=⟨b7,off+k*6+1,none⟩) (by exact hb7_)).trans d1;have d2w5:w5.cell? ⟨b7,off+k*6+2,none⟩=some (.int .i64 sa):=(hb5.cell (p:=⟨b7,off+k*6+2,none⟩) (by exact hb7_)).trans d2;have d3w5:w5.cell? ⟨b7,off+k*6+3,none⟩=some (.int .i64 sb):=(hb5.cell (p:=⟨b7,off+k*6+3,none⟩) (by exact hb7_)).trans d3;have Xw5:Zi (Bx w5 (w.1.size+1) (wd.map (Value.int .i64))):=X.o.later hb5;have Gw5:Zi (Bx w5 w.1.size [.slice (some ⟨b7,off,none⟩) ts.length cap]):=G.o.later hb5;have Pw5:Zi (Bx w5 w1.1.size [.slice (some ⟨w.1.size+1,0,none⟩) ts.length ts.length]):=P.o.later hb5;have g0w5:=Gw5.o.c 0 rfl;have p0w5:=Pw5.o.c 0 rfl;have ckw5:=Xw5.o.c k (Jq (by omega));have fkw5:=Xw5.o.f k (Jq (by omega));have hb7w5:b7<w5.1.size:=Nat.lt_of_lt_of_le hb7_ hb5.size;have hB5:Below w.1.size w w5:=hB.trans (hb5.mono hB.size);have K5:=Zd (Yt hb5);have S5:Zi (Same2 b w3.1.size wr w5):=⟨hb5.block _ (by omega),hb5.block _ (by omega)⟩;have Z5:=hb5.size;clear hb5 hie d1 d2 d3 d0 d4 d6 g0 p0
     gi_wp2
     have hwv:IntKind.i64.wrap (v)=v:=by rw[IntKind.wrap_i64];omega
     refine Ul (S:=fun Y=>Y.cell? ⟨w.1.size,0,none⟩=some (.slice (some ⟨b7,off,none⟩) ts.length cap)∧Y.cell? ⟨w1.1.size,0,none⟩=some (.slice (some ⟨w.1.size+1,0,none⟩) ts.length ts.length)∧Y.cell? ⟨b7,off+k*6+1,none⟩=some (.int .i64 kd)∧Y.cell? ⟨b7,off+k*6+2,none⟩=some (.int .i64 sa)∧Y.cell? ⟨b7,off+k*6+3,none⟩=some (.int .i64 sb)) (by kernel_rfl) (by kernel_rfl) ⟨g0w5,p0w5,d1w5,d2w5,d3w5⟩ (fun hHeld=>?_);refine wpAnyH_take (i:=0) (v := ?va0) rfl (by kernel_rfl) (by kernel_rfl) (by kernel_rfl) (fun _ _ _ h=>h) (Or.inl ⟨by rfl,?hya0⟩) hHeld ?resta0
     case hya0=>(intro w' hSw;(try dsimp only at hSw);go_simp <;> with_reducible rfl)
     refine wpAnyH_take (i:=1) (v := ?va1) rfl (by kernel_rfl) (by kernel_rfl) (by kernel_rfl) (fun _ _ _ h=>h) (Or.inl ⟨by rfl,?hya1⟩) hHeld ?resta1
     case hya1=>(intro w' hSw;(try dsimp only at hSw);go_simp <;> with_reducible rfl)
     refine wpAnyH_take (i:=2) (v := ?va2) rfl (by kernel_rfl) (by kernel_rfl) (by kernel_rfl) (fun _ _ _ h=>h) (Or.inl ⟨by rfl,?hya2⟩) hHeld ?resta2
     case hya2=>(intro w' hSw;(try dsimp only at hSw);go_simp <;> with_reducible rfl)
     refine wpAnyH_take (i:=3) (v := ?va3) rfl (by kernel_rfl) (by kernel_rfl) (by kernel_rfl) (fun _ _ _ h=>h) (Or.inl ⟨by rfl,?hya3⟩) hHeld ?resta3
     case hya3=>(intro w' hSw;(try dsimp only at hSw);go_simp <;> with_reducible rfl)
     refine wpAnyH_take (i:=4) (v := ?va4) rfl (by kernel_rfl) (by kernel_rfl) (by kernel_rfl) (fun _ _ _ h=>h) (Or.inl ⟨by rfl,?hya4⟩) hHeld ?resta4
     case hya4=>(intro w' hSw;(try dsimp only at hSw);go_simp <;> with_reducible rfl)
     refine wpAnyH_take (i:=5) (v := ?va5) rfl (by kernel_rfl) (by kernel_rfl) (by kernel_rfl) (fun _ _ _ h=>h) (Or.inl ⟨by rfl,?hya5⟩) hHeld ?resta5
     case hya5=>(intro w' hSw;(try dsimp only at hSw);go_simp <;> with_reducible rfl)
     refine wpAnyH_take (i:=6) (v := ?va6) rfl (by kernel_rfl) (by kernel_rfl) (by kernel_rfl) (fun _ _ _ h=>h) (Or.inl ⟨by rfl,?hya6⟩) hHeld ?resta6
     case hya6=>(intro w' hSw;(try dsimp only at hSw);go_simp <;> with_reducible rfl)
     refine wpAnyH_take (i:=8) (v := ?va8) rfl (by kernel_rfl) (by kernel_rfl) (by kernel_rfl) (fun _ _ _ h=>h) (Or.inl ⟨by rfl,?hya8⟩) hHeld ?resta8
     case hya8=>(intro w' hSw;(try dsimp only at hSw);go_simp <;> with_reducible rfl)
     refine wpAnyH_ready (rs:=[7]) (by kernel_rfl) (by simp) ?_;refine AllReadyH.cons (o:=_) rfl (fun K hK=>?_) AllReadyH.nil;go_simp;refine(Bj kd sa sb _ v HF.o.symm).mono ?_;rintro e w6 ⟨rfl,hb60⟩;have hb6:Below w5.1.size w5 w6:=(Below.refl w5.1.size w5).drew.trans hb60;clear hb60;refine hK.out _ _ ⟨(hb6.cell (p:=⟨w.1.size,0,none⟩) Gw5.o.size).trans g0w5,(hb6.cell (p:=⟨w1.1.size,0,none⟩) Pw5.o.size).trans p0w5,(hb6.cell (p:=⟨b7,off+k*6+1,none⟩) hb7w5).trans d1w5,(hb6.cell (p:=⟨b7,off+k*6+2,none⟩) hb7w5).trans d2w5,(hb6.cell (p:=⟨b7,off+k*6+3,none⟩) hb7w5).trans d3w5⟩ (fun hHeld6=>?_);clear hK K hHeld;refine wpAnyH_take (i:=9) (v := ?va9) rfl (by kernel_rfl) (by kernel_rfl) (by kernel_rfl) (fun _ _ _ h=>h) (Or.inl ⟨by rfl,?hya9⟩) hHeld6 ?resta9
     case hya9=>(intro w' hSw;(try dsimp only at hSw);go_simp <;> with_reducible rfl)
     refine wpAnyH_take (i:=10) (v := ?va10) rfl (by kernel_rfl) (by kernel_rfl) (by kernel_rfl) (fun _ _ _ h=>h) (Or.inl ⟨by rfl,?hya10⟩) hHeld6 ?resta10
     case hya10=>(intro w' hSw;(try dsimp only at hSw);go_simp <;> with_reducible rfl)
     have ckw6:=(hb6.cell (p:=⟨w.1.size+1,k,none⟩) Xw5.o.size).trans ckw5;have fkw6:=(hb6.frozen (p:=⟨w.1.size+1,k,none⟩) Xw5.o.size).trans fkw5;refine wpAnyH_ready (rs:=[11]) (by kernel_rfl) (by simp) ?_;refine AllReadyH.cons (o:=_) rfl (fun K hK=>?_) AllReadyH.nil;go_simp;refine hK.out _ _ ⟨(World.cell?_setCell_far _ _ _ _ (by simp only;omega)).trans hHeld6.1,(World.cell?_setCell_far _ _ _ _ (by simp only;omega)).trans hHeld6.2.1,(World.cell?_setCell_far _ _ _ _ (by simp only;omega)).trans hHeld6.2.2.1,(World.cell?_setCell_far _ _ _ _ (by simp only;omega)).trans hHeld6.2.2.2.1,(World.cell?_setCell_far _ _ _ _ (by simp only;omega)).trans hHeld6.2.2.2.2⟩ (fun hHeld7=>?_);refine wpAnyH_done (by kernel_rfl) ?_ _;refine NoOut.normal ?_;clear hHeld6 hHeld7 hK K
     gi_wp2
     have hB6:Below w.1.size w w6:=hB5.trans (hb6.mono hB5.size);have Z6:=hb6.size;refine⟨((K5.o.trans (Yt hb6)).trans (KeepsOthers.setCell _ _ _)).from _,S5.o.trans (Same2.trans (B:=w6) ⟨hb6.block _ (by omega),hb6.block _ (by omega)⟩ ⟨Ur (by simp only;omega),Ur (by simp only;omega)⟩),⟨HL.o,(Gw5.o.later hb6).other (a:=⟨w.1.size+1,k,none⟩) (by simp only;omega) _,(Pw5.o.later hb6).other (a:=⟨w.1.size+1,k,none⟩) (by simp only;omega) _,?_,by have h:∀(W:World) a u,(W.setCell a u).heap.size=W.1.size:=fun W a u=>(by simp[World.setCell]);rw[h];omega⟩,hB6.setCell (p:=⟨w.1.size+1,k,none⟩) (by simp only;omega) _⟩;rw[HSC.o,List.map_set];exact(Xw5.o.later hb6).set k _
    ·have h0':((nx.length:Int)==0)=false:=by simp[h0]
     have hvf:v=f*s:=by rw[HWN.o,if_neg h0,HS.o]
     subst hvf;have hie:=Ra nm kd sa sb cp nxo nx.length nxc wr;rw[h0']at hie;clear HWN h0
     gi_wp2_with fail
     refine⟨trivial,?_⟩;refine(CallsIn.inRound l (callsIn_wide.2 hie)).mono ?_;rintro e w5 ⟨rfl,hb5⟩;have d1w5:w5.cell? ⟨b7,off+k*6+1,none⟩=some (.int .i64 kd):=(hb5.cell (p:=⟨b7,off+k*6+1,none⟩) (by exact hb7_)).trans d1;have d2w5:w5.cell? ⟨b7,off+k*6+2,none⟩=some (.int .i64 sa):=(hb5.cell (p:=⟨b7,off+k*6+2,none⟩) (by exact hb7_)).trans d2;have d3w5:w5.cell? ⟨b7,off+k*6+3,none⟩=some (.int .i64 sb):=(hb5.cell (p:=⟨b7,off+k*6+3,none⟩) (by exact hb7_)).trans d3;have Xw5:Zi (Bx w5 (w.1.size+1) (wd.map (Value.int .i64))):=X.o.later hb5;have Gw5:Zi (Bx w5 w.1.size [.slice (some ⟨b7,off,none⟩) ts.length cap]):=G.o.later hb5;have Pw5:Zi (Bx w5 w1.1.size [.slice (some ⟨w.1.size+1,0,none⟩) ts.length ts.length]):=P.o.later hb5;have g0w5:=Gw5.o.c 0 rfl;have p0w5:=Pw5.o.c 0 rfl;have ckw5:=Xw5.o.c k (Jq (by omega));have fkw5:=Xw5.o.f k (Jq (by omega));have hb7w5:b7<w5.1.size:=Nat.lt_of_lt_of_le hb7_ hb5.size;have hB5:Below w.1.size w w5:=hB.trans (hb5.mono hB.size);have K5:=Zd (Yt hb5);have S5:Zi (Same2 b w3.1.size wr w5):=⟨hb5.block _ (by omega),hb5.block _ (by omega)⟩;have Z5:=hb5.size;clear hb5 hie d1 d2 d3 d0 d4 d6 g0 p0
     gi_wp2
     have hwv:IntKind.i64.wrap (f*s)=f*s:=by rw[IntKind.wrap_i64];omega
     refine Ul (S:=fun Y=>Y.cell? ⟨w.1.size,0,none⟩=some (.slice (some ⟨b7,off,none⟩) ts.length cap)∧Y.cell? ⟨w1.1.size,0,none⟩=some (.slice (some ⟨w.1.size+1,0,none⟩) ts.length ts.length)∧Y.cell? ⟨b7,off+k*6+1,none⟩=some (.int .i64 kd)∧Y.cell? ⟨b7,off+k*6+2,none⟩=some (.int .i64 sa)∧Y.cell? ⟨b7,off+k*6+3,none⟩=some (.int .i64 sb)) (by kernel_rfl) (by kernel_rfl) ⟨g0w5,p0w5,d1w5,d2w5,d3w5⟩ (fun hHeld=>?_);refine wpAnyH_take (i:=0) (v := ?vb0) rfl (by kernel_rfl) (by kernel_rfl) (by kernel_rfl) (fun _ _ _ h=>h) (Or.inl ⟨by rfl,?hyb0⟩) hHeld ?restb0
     case hyb0=>(intro w' hSw;(try dsimp only at hSw);go_simp <;> with_reducible rfl)
     refine wpAnyH_take (i:=1) (v := ?vb1) rfl (by kernel_rfl) (by kernel_rfl) (by kernel_rfl) (fun _ _ _ h=>h) (Or.inl ⟨by rfl,?hyb1⟩) hHeld ?restb1
     case hyb1=>(intro w' hSw;(try dsimp only at hSw);go_simp <;> with_reducible rfl)
     refine wpAnyH_take (i:=2) (v := ?vb2) rfl (by kernel_rfl) (by kernel_rfl) (by kernel_rfl) (fun _ _ _ h=>h) (Or.inl ⟨by rfl,?hyb2⟩) hHeld ?restb2
     case hyb2=>(intro w' hSw;(try dsimp only at hSw);go_simp <;> with_reducible rfl)
     refine wpAnyH_take (i:=3) (v := ?vb3) rfl (by kernel_rfl) (by kernel_rfl) (by kernel_rfl) (fun _ _ _ h=>h) (Or.inl ⟨by rfl,?hyb3⟩) hHeld ?restb3
     case hyb3=>(intro w' hSw;(try dsimp only at hSw);go_simp <;> with_reducible rfl)
     refine wpAnyH_take (i:=4) (v := ?vb4) rfl (by kernel_rfl) (by kernel_rfl) (by kernel_rfl) (fun _ _ _ h=>h) (Or.inl ⟨by rfl,?hyb4⟩) hHeld ?restb4
     case hyb4=>(intro w' hSw;(try dsimp only at hSw);go_simp <;> with_reducible rfl)
     refine wpAnyH_take (i:=5) (v := ?vb5) rfl (by kernel_rfl) (by kernel_rfl) (by kernel_rfl) (fun _ _ _ h=>h) (Or.inl ⟨by rfl,?hyb5⟩) hHeld ?restb5
     case hyb5=>(intro w' hSw;(try dsimp only at hSw);go_simp <;> with_reducible rfl)
     refine wpAnyH_take (i:=6) (v := ?vb6) rfl (by kernel_rfl) (by kernel_rfl) (by kernel_rfl) (fun _ _ _ h=>h) (Or.inl ⟨by rfl,?hyb6⟩) hHeld ?restb6
     case hyb6=>(intro w' hSw;(try dsimp only at hSw);go_simp <;> with_reducible rfl)
     refine wpAnyH_take (i:=8) (v := ?vb8) rfl (by kernel_rfl) (by kernel_rfl) (by kernel_rfl) (fun _ _ _ h=>h) (Or.inl ⟨by rfl,?hyb8⟩) hHeld ?restb8
     case hyb8=>(intro w' hSw;(try dsimp only at hSw);go_simp <;> with_reducible rfl)
     refine wpAnyH_ready (rs:=[7]) (by kernel_rfl) (by simp) ?_;refine AllReadyH.cons (o:=_) rfl (fun K hK=>?_) AllReadyH.nil;go_simp;refine(Bj kd sa sb _ f HF.o.symm).mono ?_;rintro e w6 ⟨rfl,hb60⟩;have hb6:Below w5.1.size w5 w6:=(Below.refl w5.1.size w5).drew.trans hb60;clear hb60;refine hK.out _ _ ⟨(hb6.cell (p:=⟨w.1.size,0,none⟩) Gw5.o.size).trans g0w5,(hb6.cell (p:=⟨w1.1.size,0,none⟩) Pw5.o.size).trans p0w5,(hb6.cell (p:=⟨b7,off+k*6+1,none⟩) hb7w5).trans d1w5,(hb6.cell (p:=⟨b7,off+k*6+2,none⟩) hb7w5).trans d2w5,(hb6.cell (p:=⟨b7,off+k*6+3,none⟩) hb7w5).trans d3w5⟩ (fun hHeld6=>?_);clear hK K hHeld;refine wpAnyH_take (i:=9) (v := ?vb9) rfl (by kernel_rfl) (by kernel_rfl) (by kernel_rfl) (fun _ _ _ h=>h) (Or.inl ⟨by rfl,?hyb9⟩) hHeld6 ?restb9
     case hyb9=>(intro w' hSw;(try dsimp only at hSw);go_simp <;> with_reducible rfl)
     refine wpAnyH_take (i:=10) (v := ?vb10) rfl (by kernel_rfl) (by kernel_rfl) (by kernel_rfl) (fun _ _ _ h=>h) (Or.inl ⟨by rfl,?hyb10⟩) hHeld6 ?restb10
     case hyb10=>(intro w' hSw;(try dsimp only at hSw);go_simp <;> with_reducible rfl)
     have ckw6:=(hb6.cell (p:=⟨w.1.size+1,k,none⟩) Xw5.o.size).trans ckw5;have fkw6:=(hb6.frozen (p:=⟨w.1.size+1,k,none⟩) Xw5.o.size).trans fkw5;refine wpAnyH_ready (rs:=[11]) (by kernel_rfl) (by simp) ?_;refine AllReadyH.cons (o:=_) rfl (fun K hK=>?_) AllReadyH.nil;go_simp;refine hK.out _ _ ⟨(World.cell?_setCell_far _ _ _ _ (by simp only;omega)).trans hHeld6.1,(World.cell?_setCell_far _ _ _ _ (by simp only;omega)).trans hHeld6.2.1,(World.cell?_setCell_far _ _ _ _ (by simp only;omega)).trans hHeld6.2.2.1,(World.cell?_setCell_far _ _ _ _ (by simp only;omega)).trans hHeld6.2.2.2.1,(World.cell?_setCell_far _ _ _ _ (by simp only;omega)).trans hHeld6.2.2.2.2⟩ (fun hHeld7=>?_);refine wpAnyH_done (by kernel_rfl) ?_ _;refine NoOut.normal ?_;clear hHeld6 hHeld7 hK K
     gi_wp2
     have hB6:Below w.1.size w w6:=hB5.trans (hb6.mono hB5.size);have Z6:=hb6.size;refine⟨((K5.o.trans (Yt hb6)).trans (KeepsOthers.setCell _ _ _)).from _,S5.o.trans (Same2.trans (B:=w6) ⟨hb6.block _ (by omega),hb6.block _ (by omega)⟩ ⟨Ur (by simp only;omega),Ur (by simp only;omega)⟩),⟨HL.o,(Gw5.o.later hb6).other (a:=⟨w.1.size+1,k,none⟩) (by simp only;omega) _,(Pw5.o.later hb6).other (a:=⟨w.1.size+1,k,none⟩) (by simp only;omega) _,?_,by have h:∀(W:World) a u,(W.setCell a u).heap.size=W.1.size:=fun W a u=>(by simp[World.setCell]);rw[h];omega⟩,hB6.setCell (p:=⟨w.1.size+1,k,none⟩) (by simp only;omega) _⟩;rw[HSC.o,List.map_set];exact(Xw5.o.later hb6).set k _
 case done =>
  rintro D ys W hD rfl ⟨hI,hB⟩ hK;have p0:=hI.wid.c 0 rfl;have hW0:=hI.cnt;rw[rowOf_all,←wdOf_all,List.length_reverse]at hW0;have hbg:=Hg HE.o HRO.o.rng (by rw[List.length_reverse];exact hRl) (t:=R.length) (by rw[List.length_reverse];exact Nat.le_refl _);have hwl:=Kk gs R.reverse R.length;have HWW:=HW
  generalize Vh gs R.reverse R.length=wd at hW0 hbg hwl HWW
  have hM:=maxI_any (some ⟨w.1.size+1,0,none⟩) ts.length wd W (by omega) (by omega) (fun j hj=>(hbg j hj).1) (bx_in hW0);rw[show wd.length=ts.length by omega]at hM;have HM:=Zd hM;clear hM hwl hbg hW0
  gi_wp2_with fail
  refine⟨trivial,?_⟩;refine(callsIn_wide.2 HM.o).mono ?_;rintro e w9 ⟨rfl,hw9⟩;rw[hw9];clear hw9 w9
  gi_wp2
  refine⟨by simp,.inl ⟨_,_,rfl,run_takeDeferred hK,?_⟩⟩;refine⟨.int .i64 (Nf wd),?_,by rw[HGS.o.symm,HWW.o],hB.trans (belowK_b (w:=W4) (by omega) _ D _ _ hD hK rfl rfl)⟩
  simp[results,Tryz.f162,go_sem]
 case stop =>
  rintro D c pre W _ _ h _;exact h.elim
end
theorem Ba{g n:Nat}{W:World}(h:W.ownsRow g 135 1 (.slice (some ⟨g,0,none⟩) n n) n (madeCells (Value.slice none 0 0).cells (n*1)).toList):∃xs,HandsT g W xs (List.replicate n [])∧∀j,j<n→∀b,(el xs j).ownBlock≠some b:=by
 have e:(madeCells (Value.slice none 0 0).cells (n*1)).toList=List.replicate (n*1) (.slice none 0 0):=toList_madeCells_one _ _;rw[e,Nat.mul_one]at h;have hel:∀j,j<n→el (List.replicate n (Value.slice none 0 0)) j=.slice none 0 0:=fun j hj=>by simp[el,hj]
 refine⟨List.replicate n (.slice none 0 0),⟨by simp,by simpa using h,fun j hj=>?_,fun i j hij hj b hb=>?_⟩,fun j hj b hb=>?_⟩
 ·simp at hj
  rw[hel j hj,show el (List.replicate n ([]:List (Int×Int×Int))) j=[]from by simp[el,hj]];exact Kind.Own.nil _ _ _
 ·simp at hj
  rw[hel i (by omega)]at hb
  simp[Value.ownBlock]at hb
 ·rw[hel j hj]at hb
  simp[Value.ownBlock]at hb
def pp0(n:Nat):PP:={ ti:=0,it:=0,cl:=false,bx:=List.replicate n [],em:=[],fa:=[],fu:=[] }
theorem totT_rep:∀n,Zs (List.replicate n [])=0
 |0=>rfl
 |n+1=>by rw[List.replicate_succ,Wt,totT_rep n];rfl
theorem pp0_bnd(n:Nat):BndP n 0 (pp0 n) :=
 ⟨by simp[pp0],by simp[pp0,totT_rep],by simp[pp0],by simp[pp0],by simp[pp0],by simp[pp0],by simp[pp0],by simp[pp0],fun k t ht=>by
  have e:el (List.replicate n ([]:List (Int×Int×Int))) k=[]:=by
   by_cases hk:k<n
   ·simp[el,hk]
   ·simp[el,hk];rfl
  rw[show(pp0 n).bx=List.replicate n []from rfl,e]at ht
  cases ht⟩
theorem flow_new{lo n bb:Nat}{W:World}{xs:List Value}{gv sv:Value}(hh:HandsT bb W xs (List.replicate n []))(hx:∀j,j<n→∀b,(el xs j).ownBlock≠some b)(hlo:lo≤bb)(T:TypeId) :
  Flow lo (W.alloc (.cells #[gv,sv,.int .i64 0,.int .i64 0,.bool false,.slice (some ⟨bb,0,none⟩) n n,.slice none 0 0,.slice none 0 0,.slice none 0 0,.int .i64 0] T)) W.1.size bb gv sv xs (.slice none 0 0) (.slice none 0 0) (.slice none 0 0) (pp0 n):=by
 have hs:=hh.size;refine⟨?_,hh.later (Zk _ _),Kind.Own.nil _ _ _,Kind.Own.nil _ _ _,Kind.Own.nil _ _ _,by omega,hlo,by omega,fun j hj=>hx j (by simpa[pp0]using hj) _,by simp[Value.ownBlock],by simp[Value.ownBlock],by simp[Value.ownBlock]⟩;have:=Bx.new (w:=W) [gv,sv,.int .i64 0,.int .i64 0,.bool false,.slice (some ⟨bb,0,none⟩) n n,.slice none 0 0,.slice none 0 0,.slice none 0 0,.int .i64 0] T rfl
 simpa[pp0,totT_rep]using this
def Kv(gs:List PNode):Bool:=decide (Qa gs=0) && decide (Ue gs≤400)
def AnsFl(ao:Option Addr)(cap:Nat)(ts:List LNode)(w:World)(e:Ending)(w':World):Prop :=
  (if Kv (ts.map Zz)=true then∃lo p bb so sc xs,e=.returned (.tuple #[.pointer (some ⟨p,0,none⟩),.bool true])∧w.1.size≤lo∧kI.Fresh w.1.size lo w' so sc (Ke (ts.map Zz) ts.length)∧Flow lo w' p bb (.slice ao ts.length cap) (.slice so (Ke (ts.map Zz) ts.length).length sc) xs (.slice none 0 0) (.slice none 0 0) (.slice none 0 0) (pp0 ts.length)
   else e=.returned (.tuple #[.pointer none,.bool false]))∧Below w.1.size w w'
theorem Tryz.infoTok:(prog.info? 135).map (fun i=>(i.zero,i.size,i.bytes))=some (some (.slice none 0 0),1,24):=by kernel_rfl
theorem flowIn_any(ao:Option Addr)(cap:Nat)(ts:List LNode)(ea:Nat→Addr)(w:World)(hC:Roomy ts cap)(hE:Errs w ea)(hz:DIn Ja w.1.size w ao ts) :
  Calls prog 126 #[.slice ao ts.length cap] w (AnsFl ao cap ts w):=by
 have hcon:=Ge ao cap ts ea w hC hE hz;have HZ:=Zd hz;have HFi:=Zd hC.fitN;have HCC:=Zd hC;have HEE:=Zd hE;clear hz hE hC
 by_cases h0:Qa (ts.map Zz)=0
 ·obtain⟨hm,hbk,hor⟩:=Jw h0;have HED:=Zd (Nv (by omega) (hbk 4 (by omega)));have h1:1≤ts.length:=by rw[Zb]at hm;omega
  have h10:ts.length≤10:=by rw[Zb]at hm;omega
  have h7:13≤w.1.size:=HEE.o.size;have HSR:Zi (srcR (ts.map Zz)=(Ke (ts.map Zz) ts.length,true)):=by rw[Zi,srcR,if_pos h0,Zb]
  rw[decide_eq_true h0]at hcon
  by_cases hwd:Ue (ts.map Zz)≤400
  ·have HPB:Zi (Kv (ts.map Zz)=true):=by rw[Zi,Kv,decide_eq_true h0,decide_eq_true hwd];rfl
   have hd:decide ((400:Int)<Ue (ts.map Zz))=false:=by simpa using hwd
   obtain⟨i0,hi,hz0,hz1,hz2⟩:=info_parts Tryz.infoTok;have HWI:Zi (∀W',Below w.1.size w W'→Calls prog 162 #[.slice ao ts.length cap] W' fun e w'=>e=.returned (.int .i64 (Ue (ts.map Zz)))∧Below W'.1.size W' w'):=fun W' hW=>Yh ao cap ts W' HFi.o h1 HED.o (HZ.o.later Zf hW)
   clear h0 hm hbk hor hwd
   generalize Ue (ts.map Zz)=wd at hd HWI
   go_enter func126,ntmps126;go_wp2_with fail;refine hcon.mono ?_;rintro e w1 ⟨rfl,hb1⟩;have HB1:=Zd hb1;clear hb1 hcon;go_wp2_with fail;refine(HWI.o w1 HB1.o).mono ?_;rintro e w2 ⟨rfl,hb2⟩;have HB2:=Zd (HB1.o.trans (hb2.mono HB1.o.size));clear hb2;have hsi:=Fj ao cap ts ea w2 HCC.o (HEE.o.below HB2.o h7) (HZ.o.later Zf HB2.o);rw[HSR.o]at hsi;have HSI:=Zd hsi;clear hsi;go_wp2_with fail;refine HSI.o.mono ?_;rintro e w3 ⟨⟨so,sc,rfl,hfr⟩,hb3⟩;have HB3:=Zd (HB2.o.trans (hb3.mono HB2.o.size));have HFR:=Zd hfr;clear hb3 hfr HSI;go_wp2_with (at_make;refine wpList_make_full _ rfl _ _ 44 rfl w3.1.size 135 i0 (.slice none 0 0) 1 underlying44 hi hz0 hz1 .i64 .i64 _ _ ts.length rfl rfl rfl rfl (by rw[hz2];omega) (by unfold maxLen;omega) (Nat.le_refl _) ?_;intro wA hown hgrow;have HBA:=Zd ((Below.refl w3.1.size w3).grown hgrow (Nat.le_refl _) (fun k e=>by cases e));obtain⟨xsA,hhA,hxA⟩:=Ba hown;have HA:=Zd hhA;have HX:=Zd hxA;clear hown hgrow hhA hxA);refine bodyPost_ret (v:=.tuple #[.pointer (some ⟨wA.1.size,0,none⟩),.bool true]) (by simp[results,results126,go_sem]) rfl ?_;have hbT:=fun o=>HBA.o.trans ((Zk wA o).mono HBA.o.size)
   refine⟨?_,HB3.o.trans ((hbT _).mono HB3.o.size)⟩;rw[if_pos HPB.o];exact⟨w3.1.size,wA.1.size,w3.1.size,so,sc,xsA,rfl,HB3.o.size,(HFR.o.keep fun k _ h2 _=>(hbT _).block k h2).wide HB2.o.size (Nat.le_refl _),flow_new HA.o HX.o (Nat.le_refl _) _⟩
  ·have HPB:Zi (Kv (ts.map Zz)=false):=by rw[Zi,Kv,decide_eq_false hwd,Bool.and_false]
   have hd:decide ((400:Int)<Ue (ts.map Zz))=true:=by simp;omega
   have HWI:Zi (∀W',Below w.1.size w W'→Calls prog 162 #[.slice ao ts.length cap] W' fun e w'=>e=.returned (.int .i64 (Ue (ts.map Zz)))∧Below W'.1.size W' w'):=fun W' hW=>Yh ao cap ts W' HFi.o h1 HED.o (HZ.o.later Zf hW)
   clear h0 hm hbk hor hwd
   generalize Ue (ts.map Zz)=wd at hd HWI
   go_enter func126,ntmps126;go_wp2_with fail;refine hcon.mono ?_;rintro e w1 ⟨rfl,hb1⟩;have HB1:=Zd hb1;clear hb1 hcon;go_wp2_with fail;refine(HWI.o w1 HB1.o).mono ?_;rintro e w2 ⟨rfl,hb2⟩;have HB2:=Zd (HB1.o.trans (hb2.mono HB1.o.size));clear hb2;go_wp2;refine bodyPost_ret (v:=.tuple #[.pointer none,.bool false]) (by simp[results,results126,go_sem]) rfl ?_;exact⟨by rw[if_neg (by rw[HPB.o];simp)],HB2.o⟩
 ·have HPB:Zi (Kv (ts.map Zz)=false):=by rw[Zi,Kv,decide_eq_false h0];rfl
  rw[decide_eq_false h0]at hcon;clear h0;go_enter func126,ntmps126;go_wp2_with fail;refine hcon.mono ?_;rintro e w1 ⟨rfl,hb1⟩;have hB1:Below w.1.size w w1:=hb1;clear hb1;go_wp2;refine bodyPost_ret (v:=.tuple #[.pointer none,.bool false]) (by simp[results,results126,go_sem]) rfl ?_;exact⟨by rw[if_neg (by rw[HPB.o];simp)],hB1⟩
structure RawP(N:Nat)(s:PP):Prop where
 len:s.bx.length=N
 tot:Zs s.bx+s.fa.length≤90000
 em:s.em.length≤900000
 fu:s.fu.length≤5
 ti0:0≤s.ti
 ti1:s.ti≤1000000
 it0:0≤s.it
 it1:s.it≤1000000
 tr:TrB s.bx
theorem BndP.raw{N n:Nat}{s:PP}(h:BndP N n s)(hn:n≤1000):RawP N s:=by
 have h1:=h.tot;have h2:=h.em;have h3:=h.it1;exact⟨h.len,by omega,by omega,h.fu,h.ti0,h.ti1,h.it0,by omega,h.tr⟩
def mvRow:List Value:=[.func (.func 247) #[] #[],.func (.func 208) #[] #[],.func (.func 248) #[] #[],.func (.func 249) #[] #[],.func (.func 250) #[] #[],.func (.func 251) #[] #[]]
theorem Wc(w:World):Calls prog 211 #[] w fun e w'=>e=.returned (.slice (some ⟨w.1.size,0,none⟩) 6 6)∧Bx w' w.1.size mvRow∧Below w.1.size w w':=by
 go_enter func211,ntmps211;go_wp2;go_ret;exact⟨rfl,Bx.new mvRow _ rfl,Zk _ _⟩
theorem do_at(F:Nat)(eF:∀args w,(callFunc F args).run prog w=.ok (.enter F args) w)(kd:Int)(j:Nat)(hkd:(kd=1∧j=0)∨(kd=2∧j=1)∨(kd=3∧j=2)∨(kd=4∧j=3)∨(kd=5∧j=4)∨(kd=6∧j=5))(hF:mvRow[j]? = some (.func (.func F) #[] #[]))(W:World)(p:Nat)(m2 m3 c:Int)(Q:World→Prop)
  (hC:∀V,Below W.1.size W V→Calls prog F #[.pointer (some ⟨p,0,none⟩),.agg #[.int .i64 kd,.int .i64 m2,.int .i64 m3]] V fun e w'=>e=.returned (.int .i64 c)∧Q w'∧∀b,W.1.size≤b→b<V.1.size→w'.heap[b]? = V.heap[b]?) :
  Calls prog 173 #[.pointer (some ⟨p,0,none⟩),.agg #[.int .i64 kd,.int .i64 m2,.int .i64 m3]] W fun e w'=>e=.returned (.int .i64 c)∧Q w':=by
 have hb0:=Zk W (.cells #[.int .i64 kd,.int .i64 m2,.int .i64 m3] 127);obtain⟨V,hV⟩:=nmd (W.alloc (.cells #[.int .i64 kd,.int .i64 m2,.int .i64 m3] 127));rw[←hV]at hb0;have HV:=Zd hV;have M0:=Bx.new (w:=W) [.int .i64 kd,.int .i64 m2,.int .i64 m3] 127 rfl;rw[←hV]at M0;have HC:=Zd hC;clear hC hV
 rcases hkd with⟨rfl,rfl⟩|⟨rfl,rfl⟩|⟨rfl,rfl⟩|⟨rfl,rfl⟩|⟨rfl,rfl⟩|⟨rfl,rfl⟩
 ·go_enter func173,ntmps173;go_wp2_with fail;rw[←HV.o];refine(Wc V).mono ?_;rintro e w2 ⟨rfl,hX,hb2⟩;have M2:=M0.later hb2;have hB2:Below W.1.size W w2:=hb0.trans (hb2.mono hb0.size);have P0:w2.cell? ⟨W.1.size,0,none⟩=some (.int .i64 1)∧w2.cell? ⟨W.1.size,1,none⟩=some (.int .i64 m2)∧w2.cell? ⟨W.1.size,2,none⟩=some (.int .i64 m3)∧w2.cell? ⟨V.1.size,0,none⟩=some (.func (.func F) #[] #[]):=⟨M2.c 0 rfl,M2.c 1 rfl,M2.c 2 rfl,hX.c 0 hF⟩;have q0:=P0.1;have PD:w2.drew.cell? ⟨W.1.size,0,none⟩=some (.int .i64 1)∧w2.drew.cell? ⟨W.1.size,1,none⟩=some (.int .i64 m2)∧w2.drew.cell? ⟨W.1.size,2,none⟩=some (.int .i64 m3)∧w2.drew.cell? ⟨V.1.size,0,none⟩=some (.func (.func F) #[] #[]):=P0;have HCC:Zi (Calls prog F #[.pointer (some ⟨p,0,none⟩),.agg #[.int .i64 1,.int .i64 m2,.int .i64 m3]] w2.drew fun e w'=>e=.returned (.int .i64 c)∧Q w'∧∀b,W.1.size≤b→b<w2.drew.heap.size→w'.heap[b]? = w2.drew.heap[b]?):=HC.o w2.drew hB2.drew;have z1:W.1.size<w2.drew.heap.size:=M2.size;have z2:V.1.size<w2.drew.heap.size:=hX.size;have z3:W.1.size≤V.1.size:=hb0.size;clear hX M2 M0 HV HC hF hb2 hb0 hB2;go_wp2_with fail
  go_region_with (first|(go_at_fn F;refine HCC.o.mono ?_;rintro e w3 ⟨rfl,hq,hk⟩))
  all_goals go_wp2
  all_goals go_ret
  all_goals exact⟨rfl,hq⟩
 ·go_enter func173,ntmps173;go_wp2_with fail;rw[←HV.o];refine(Wc V).mono ?_;rintro e w2 ⟨rfl,hX,hb2⟩;have M2:=M0.later hb2;have hB2:Below W.1.size W w2:=hb0.trans (hb2.mono hb0.size);have P0:w2.cell? ⟨W.1.size,0,none⟩=some (.int .i64 2)∧w2.cell? ⟨W.1.size,1,none⟩=some (.int .i64 m2)∧w2.cell? ⟨W.1.size,2,none⟩=some (.int .i64 m3)∧w2.cell? ⟨V.1.size,1,none⟩=some (.func (.func F) #[] #[]):=⟨M2.c 0 rfl,M2.c 1 rfl,M2.c 2 rfl,hX.c 1 hF⟩;have q0:=P0.1;have PD:w2.drew.cell? ⟨W.1.size,0,none⟩=some (.int .i64 2)∧w2.drew.cell? ⟨W.1.size,1,none⟩=some (.int .i64 m2)∧w2.drew.cell? ⟨W.1.size,2,none⟩=some (.int .i64 m3)∧w2.drew.cell? ⟨V.1.size,1,none⟩=some (.func (.func F) #[] #[]):=P0;have HCC:Zi (Calls prog F #[.pointer (some ⟨p,0,none⟩),.agg #[.int .i64 2,.int .i64 m2,.int .i64 m3]] w2.drew fun e w'=>e=.returned (.int .i64 c)∧Q w'∧∀b,W.1.size≤b→b<w2.drew.heap.size→w'.heap[b]? = w2.drew.heap[b]?):=HC.o w2.drew hB2.drew;have z1:W.1.size<w2.drew.heap.size:=M2.size;have z2:V.1.size<w2.drew.heap.size:=hX.size;have z3:W.1.size≤V.1.size:=hb0.size;clear hX M2 M0 HV HC hF hb2 hb0 hB2;go_wp2_with fail
  go_region_with (first|(go_at_fn F;refine HCC.o.mono ?_;rintro e w3 ⟨rfl,hq,hk⟩))
  all_goals go_wp2
  all_goals go_ret
  all_goals exact⟨rfl,hq⟩
 ·go_enter func173,ntmps173;go_wp2_with fail;rw[←HV.o];refine(Wc V).mono ?_;rintro e w2 ⟨rfl,hX,hb2⟩;have M2:=M0.later hb2;have hB2:Below W.1.size W w2:=hb0.trans (hb2.mono hb0.size);have P0:w2.cell? ⟨W.1.size,0,none⟩=some (.int .i64 3)∧w2.cell? ⟨W.1.size,1,none⟩=some (.int .i64 m2)∧w2.cell? ⟨W.1.size,2,none⟩=some (.int .i64 m3)∧w2.cell? ⟨V.1.size,2,none⟩=some (.func (.func F) #[] #[]):=⟨M2.c 0 rfl,M2.c 1 rfl,M2.c 2 rfl,hX.c 2 hF⟩;have q0:=P0.1;have PD:w2.drew.cell? ⟨W.1.size,0,none⟩=some (.int .i64 3)∧w2.drew.cell? ⟨W.1.size,1,none⟩=some (.int .i64 m2)∧w2.drew.cell? ⟨W.1.size,2,none⟩=some (.int .i64 m3)∧w2.drew.cell? ⟨V.1.size,2,none⟩=some (.func (.func F) #[] #[]):=P0;have HCC:Zi (Calls prog F #[.pointer (some ⟨p,0,none⟩),.agg #[.int .i64 3,.int .i64 m2,.int .i64 m3]] w2.drew fun e w'=>e=.returned (.int .i64 c)∧Q w'∧∀b,W.1.size≤b→b<w2.drew.heap.size→w'.heap[b]? = w2.drew.heap[b]?):=HC.o w2.drew hB2.drew;have z1:W.1.size<w2.drew.heap.size:=M2.size;have z2:V.1.size<w2.drew.heap.size:=hX.size;have z3:W.1.size≤V.1.size:=hb0.size;clear hX M2 M0 HV HC hF hb2 hb0 hB2;go_wp2_with fail
  go_region_with (first|(go_at_fn F;refine HCC.o.mono ?_;rintro e w3 ⟨rfl,hq,hk⟩))
  all_goals go_wp2
  all_goals go_ret
  all_goals exact⟨rfl,hq⟩
 ·go_enter func173,ntmps173;go_wp2_with fail;rw[←HV.o];refine(Wc V).mono ?_;rintro e w2 ⟨rfl,hX,hb2⟩;have M2:=M0.later hb2;have hB2:Below W.1.size W w2:=hb0.trans (hb2.mono hb0.size);have P0:w2.cell? ⟨W.1.size,0,none⟩=some (.int .i64 4)∧w2.cell? ⟨W.1.size,1,none⟩=some (.int .i64 m2)∧w2.cell? ⟨W.1.size,2,none⟩=some (.int .i64 m3)∧w2.cell? ⟨V.1.size,3,none⟩=some (.func (.func F) #[] #[]):=⟨M2.c 0 rfl,M2.c 1 rfl,M2.c 2 rfl,hX.c 3 hF⟩;have q0:=P0.1;have PD:w2.drew.cell? ⟨W.1.size,0,none⟩=some (.int .i64 4)∧w2.drew.cell? ⟨W.1.size,1,none⟩=some (.int .i64 m2)∧w2.drew.cell? ⟨W.1.size,2,none⟩=some (.int .i64 m3)∧w2.drew.cell? ⟨V.1.size,3,none⟩=some (.func (.func F) #[] #[]):=P0;have HCC:Zi (Calls prog F #[.pointer (some ⟨p,0,none⟩),.agg #[.int .i64 4,.int .i64 m2,.int .i64 m3]] w2.drew fun e w'=>e=.returned (.int .i64 c)∧Q w'∧∀b,W.1.size≤b→b<w2.drew.heap.size→w'.heap[b]? = w2.drew.heap[b]?):=HC.o w2.drew hB2.drew;have z1:W.1.size<w2.drew.heap.size:=M2.size;have z2:V.1.size<w2.drew.heap.size:=hX.size;have z3:W.1.size≤V.1.size:=hb0.size;clear hX M2 M0 HV HC hF hb2 hb0 hB2;go_wp2_with fail
  go_region_with (first|(go_at_fn F;refine HCC.o.mono ?_;rintro e w3 ⟨rfl,hq,hk⟩))
  all_goals go_wp2
  all_goals go_ret
  all_goals exact⟨rfl,hq⟩
 ·go_enter func173,ntmps173;go_wp2_with fail;rw[←HV.o];refine(Wc V).mono ?_;rintro e w2 ⟨rfl,hX,hb2⟩;have M2:=M0.later hb2;have hB2:Below W.1.size W w2:=hb0.trans (hb2.mono hb0.size);have P0:w2.cell? ⟨W.1.size,0,none⟩=some (.int .i64 5)∧w2.cell? ⟨W.1.size,1,none⟩=some (.int .i64 m2)∧w2.cell? ⟨W.1.size,2,none⟩=some (.int .i64 m3)∧w2.cell? ⟨V.1.size,4,none⟩=some (.func (.func F) #[] #[]):=⟨M2.c 0 rfl,M2.c 1 rfl,M2.c 2 rfl,hX.c 4 hF⟩;have q0:=P0.1;have PD:w2.drew.cell? ⟨W.1.size,0,none⟩=some (.int .i64 5)∧w2.drew.cell? ⟨W.1.size,1,none⟩=some (.int .i64 m2)∧w2.drew.cell? ⟨W.1.size,2,none⟩=some (.int .i64 m3)∧w2.drew.cell? ⟨V.1.size,4,none⟩=some (.func (.func F) #[] #[]):=P0;have HCC:Zi (Calls prog F #[.pointer (some ⟨p,0,none⟩),.agg #[.int .i64 5,.int .i64 m2,.int .i64 m3]] w2.drew fun e w'=>e=.returned (.int .i64 c)∧Q w'∧∀b,W.1.size≤b→b<w2.drew.heap.size→w'.heap[b]? = w2.drew.heap[b]?):=HC.o w2.drew hB2.drew;have z1:W.1.size<w2.drew.heap.size:=M2.size;have z2:V.1.size<w2.drew.heap.size:=hX.size;have z3:W.1.size≤V.1.size:=hb0.size;clear hX M2 M0 HV HC hF hb2 hb0 hB2;go_wp2_with fail
  go_region_with (first|(go_at_fn F;refine HCC.o.mono ?_;rintro e w3 ⟨rfl,hq,hk⟩))
  all_goals go_wp2
  all_goals go_ret
  all_goals exact⟨rfl,hq⟩
 ·go_enter func173,ntmps173;go_wp2_with fail;rw[←HV.o];refine(Wc V).mono ?_;rintro e w2 ⟨rfl,hX,hb2⟩;have M2:=M0.later hb2;have hB2:Below W.1.size W w2:=hb0.trans (hb2.mono hb0.size);have P0:w2.cell? ⟨W.1.size,0,none⟩=some (.int .i64 6)∧w2.cell? ⟨W.1.size,1,none⟩=some (.int .i64 m2)∧w2.cell? ⟨W.1.size,2,none⟩=some (.int .i64 m3)∧w2.cell? ⟨V.1.size,5,none⟩=some (.func (.func F) #[] #[]):=⟨M2.c 0 rfl,M2.c 1 rfl,M2.c 2 rfl,hX.c 5 hF⟩;have q0:=P0.1;have PD:w2.drew.cell? ⟨W.1.size,0,none⟩=some (.int .i64 6)∧w2.drew.cell? ⟨W.1.size,1,none⟩=some (.int .i64 m2)∧w2.drew.cell? ⟨W.1.size,2,none⟩=some (.int .i64 m3)∧w2.drew.cell? ⟨V.1.size,5,none⟩=some (.func (.func F) #[] #[]):=P0;have HCC:Zi (Calls prog F #[.pointer (some ⟨p,0,none⟩),.agg #[.int .i64 6,.int .i64 m2,.int .i64 m3]] w2.drew fun e w'=>e=.returned (.int .i64 c)∧Q w'∧∀b,W.1.size≤b→b<w2.drew.heap.size→w'.heap[b]? = w2.drew.heap[b]?):=HC.o w2.drew hB2.drew;have z1:W.1.size<w2.drew.heap.size:=M2.size;have z2:V.1.size<w2.drew.heap.size:=hX.size;have z3:W.1.size≤V.1.size:=hb0.size;clear hX M2 M0 HV HC hF hb2 hb0 hB2;go_wp2_with fail
  go_region_with (first|(go_at_fn F;refine HCC.o.mono ?_;rintro e w3 ⟨rfl,hq,hk⟩))
  all_goals go_wp2
  all_goals go_ret
  all_goals exact⟨rfl,hq⟩
end Go.Proofs.YtdacedbfnlkghaaGreatDoor