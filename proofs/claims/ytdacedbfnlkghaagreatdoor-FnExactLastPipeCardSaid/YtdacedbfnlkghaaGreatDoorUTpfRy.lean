/- Numbers, a stage and what a node leads to, read: the program's. A stage read: the program's. A drawn region by hand: where two may come up. No conditions but those written. -/
import Derived.Test.YtdacedbfnlkghaaGreatDoorUTpbTpe
namespace Go.Proofs.YtdacedbfnlkghaaGreatDoor
set_option maxHeartbeats 4000000
set_option maxRecDepth 100000
open Go.RowKit Go.Proofs.Tryz
def Jm:List ByteArray→Option (List Int)
 | []=>some []
 |x::r=>match Wn x.data.toList with
  |none=>none
  |some n=>match Jm r with
   |none=>none
   |some l=>some (n::l)
theorem Gu:∀(l:List ByteArray)(x:ByteArray)(a:List Int)(n:Int),Jm l=some a→Wn x.data.toList=some n→Jm (l++[x])=some (a++[n])
 | [],x,a,n,h1,h2=>by
  obtain rfl:[]=a:=Option.some.inj h1
  simp[Jm,h2]
 |y::l,x,a,n,h1,h2=>by
  rw[Jm]at h1;rw[List.cons_append,Jm]
  cases hy:Wn y.data.toList with
  |none=>rw[hy]at h1;cases h1
  |some m =>
   rw[hy]at h1;dsimp only at h1 ⊢
   cases hl:Jm l with
   |none=>rw[hl]at h1;cases h1
   |some b =>
    rw[hl]at h1;obtain rfl:m::b=a:=Option.some.inj h1;rw[Gu l x b n hl h2];rfl
theorem Vs:∀{l:List ByteArray}{x:ByteArray},x∈l→Wn x.data.toList=none→Jm l=none
 |y::l,x,h,hx=>by
  rw[Jm]
  rcases List.mem_cons.1 h with rfl|h
  ·rw[hx]
  ·rw[Vs h hx];split <;> rfl
theorem Vd:∀{l:List ByteArray}{a:List Int},Jm l=some a→a.length=l.length
 | [],a,h=>by obtain rfl:[]=a:=Option.some.inj h;rfl
 |y::l,a,h=>by
  rw[Jm]at h
  cases hy:Wn y.data.toList with
  |none=>rw[hy]at h;cases h
  |some m =>
   rw[hy]at h;dsimp only at h
   cases hl:Jm l with
   |none=>rw[hl]at h;cases h
   |some b =>
    rw[hl]at h;obtain rfl:m::b=a:=Option.some.inj h;rw[List.length_cons,List.length_cons,Vd hl]
def He(ws:List ByteArray):List Int×Bool:=match Jm ws with|some l=>(l,true)|none=>([],false)
theorem Gz{ws:List ByteArray}{l:List Int}(h:Jm ws=some l):He ws=(l,true):=by rw[He,h]
theorem Rj{ws:List ByteArray}(h:Jm ws=none):He ws=([],false):=by rw[He,h]
theorem numsQ_len(ws:List ByteArray):(He ws).1.length≤ws.length:=by
 unfold He
 split
 ·next l h=>rw[Vd h];exact Nat.le_refl _
 ·simp
def AnsNB(w:World)(R:List Int×Bool)(e:Ending)(w':World):Prop:=(∃go qc,e=.returned (.tuple #[.slice go R.1.length qc,.bool R.2])∧(go=none→qc=0)∧kI.Fresh w.1.size w'.1.size w' go qc R.1)∧Below w.1.size w w'
def Ns(ws:List ByteArray):Prop:=∀x∈ws,x.size≤1048576
theorem Wl(ao:Option Addr)(cap:Nat)(ws:List ByteArray)(w:World)(hl:ws.length≤1048577)(hS:Ns ws)(hz:kS.In w.1.size w ao ws)(hT:PowTab w)(hE:NErr w) :
  Calls prog 75 #[.slice ao ws.length cap] w fun e w'=>AnsNB w (He ws) e w':=by
 have HT:=Zd hT;have HE:=Zd hE;have HS:=Zd hS;clear hT hE hS;go_enter func75,ntmps75;go_wp2
 go_loopw [4,11] (fun u i wr=>∃(k:Nat)(v:Value)(acc:List Int),v=u∧k≤ws.length∧acc.length≤k∧i=.int .i64 (k:Int)∧Zi (kI.Own w.1.size wr v acc)∧Zi (Jm (ws.take k)=some acc)∧Below w.1.size w wr) (fun _ i _=>ws.length-(intOf i).toNat)
 case atStart=>exact⟨0,_,[],rfl,Nat.zero_le _,Nat.le_refl _,rfl,Kind.Own.nil _ _ _,rfl,Below.refl _ _⟩
 case round =>
  obtain⟨k,v,acc,rfl,hk,hal,rfl,hO,hN,hB⟩:=hrel
  by_cases hlt:k<ws.length
  ·obtain⟨b,off,rfl,hb,hc⟩:=Ks hz hlt;have d1:=(hB.cell (p:=⟨b,off+k,none⟩) hb).trans (hc k hlt);have hnum:=Pt (el ws k) wr (HS.o _ (Zl hlt)) (HT.o.later hB) (HE.o.later hB);have hmem:=Zl hlt;have htk:=Zy hlt
   cases hn:Wn (el ws k).data.toList with
   |none =>
    have HQ:=Zd (Rj (Vs hmem hn));rw[Xr hn]at hnum;dsimp only at hnum;have HM:=Zd hnum
    generalize el ws k=x at d1 HM
    clear hnum hc hmem htk hn hO hN;go_wp2_with fail;refine HM.o.mono ?_;rintro e w1 ⟨rfl,hb1⟩;go_wp2;refine bodyPost_ret (v:=.tuple #[.slice none 0 0,.bool false]) (by simp[results,results75,go_sem]) rfl ?_;rw[HQ.o];exact⟨⟨none,0,rfl,fun _=>rfl,.inl rfl⟩,hB.trans (hb1.mono hB.size)⟩
   |some n =>
    have HN2:Zi (Jm (ws.take (k+1))=some (acc++[n])):=by rw[Zi,htk];exact Gu _ _ _ _ hN.o hn
    rw[Vx hn]at hnum;dsimp only at hnum;have HM:=Zd hnum
    generalize el ws k=x at d1 HM
    clear hnum hc hmem htk hn hN;go_wp2_with fail;refine HM.o.mono ?_;rintro e w1 ⟨rfl,hb1⟩;have hB1:=hB.trans (hb1.mono hB.size);have HA:Zi (kI.Own w.1.size (w1.alloc (.cells #[.int .i64 n] 3)) v acc):=(hO.o.below hb1).below (Zk _ _);have HNN:Zi (kI.In (w1.1.size+1) (w1.alloc (.cells #[.int .i64 n] 3)) (some ⟨w1.1.size,0,none⟩) [n]):=Kc (by omega) (by simp);have hBa:Below w.1.size w (w1.alloc (.cells #[.int .i64 n] 3)):=Zx hB1 _;have hll:acc.length+1≤4194304:=by omega
    have hs1:=hB1.size;clear hb1 hO HM;go_wp2_with (at_builtin;refine Kind.app Vq (w1.alloc (.cells #[.int .i64 n] 3)) rfl (.tmp 22) (.tmp 24) rfl w.1.size v acc rfl HA.o (by simp;omega) (some ⟨w1.1.size,0,none⟩) [n] 1 1 rfl rfl (by simp) _ HNN.o hll ?_;intro v' w' hO' hB' hG' hn';have hB2:Below w.1.size w w':=hBa.trans (hB'.mono (by omega));have HO':Zi (kI.Own w.1.size w' v' (acc++[n])):=hO';clear hO' hB' hG' hn');go_roundw
    case rel=>exact⟨k+1,v',acc++[n],rfl,by omega,by simp;omega,by go_num,HO',HN2,hB2⟩
    case measure=>simp[intOf];omega
  ·obtain rfl:k=ws.length:=by omega
   have hN2:=hN.o;rw[List.take_length]at hN2;have HQ:=Zd (Gz hN2);obtain⟨qo,qc,rfl,hn,hF⟩:=hO.o.fresh;have HF:=Zd hF;clear hF hO hN hN2;go_wp2;refine bodyPost_ret (v:=.tuple #[.slice qo acc.length qc,.bool true]) (by simp[results,results75,go_sem]) rfl ?_;rw[HQ.o];exact⟨⟨qo,qc,rfl,hn,HF.o⟩,hB⟩
theorem Gg(s:ByteArray)(a b:Nat):(s.extract a b).size≤s.size:=by rw[ByteArray.size_extract];omega
theorem Xb(s:ByteArray)(m:Int):∀(n i f:Nat),∀x∈Ql s m n i f,x.size≤s.size
 |0,i,f,x,h=>by simp[Ql]at h;subst h;exact Gg _ _ _
 |n+1,i,f,x,h=>by
  rw[Ql]at h
  split at h
  ·rcases List.mem_cons.1 h with rfl|h
   ·exact Gg _ _ _
   ·exact Xb s m n _ _ x h
  ·exact Xb s m n _ _ x h
theorem Qc{s:ByteArray}(m:Int)(hs:s.size≤1048576):Ns (Zw s m):=fun x hx=>Nat.le_trans (Xb s m _ _ _ x hx) hs
def Wo(s:ByteArray):List Int×Bool:=if s=⟨#[45]⟩then([],true)else He (Zw s 44)
theorem readNext_is(s:ByteArray)(w:World)(hs:s.size≤1048576)(hT:PowTab w)(hE:NErr w) :
  Calls prog 37 #[.string s] w fun e w'=>AnsNB w (Wo s) e w':=by
 unfold Wo
 by_cases h:s=⟨#[45]⟩
 ·rw[if_pos h];subst h;go_enter func37,ntmps37;go_wp2;exact bodyPost_ret (v:=.tuple #[.slice none 0 0,.bool true]) (by simp[results,results37,go_sem]) rfl ⟨⟨none,0,rfl,fun _=>rfl,.inl rfl⟩,Below.refl _ _⟩
 ·rw[if_neg h];have hne:(s.toList==(⟨#[45]⟩:ByteArray).toList)=false:=by
   rw[beq_eq_false_iff_ne];exact fun e=>h (Ze e)
  have hne2:s.toList≠(⟨#[45]⟩:ByteArray).toList:=fun e=>h (Ze e)
  obtain⟨R,hR⟩:=nmd (He (Zw s 44));rw[←hR];have HR:=Zd hR;clear hR;have HP:=Zd (Xj s 44 w hs (by omega));have HL:=Zd (Qr s 44);have HSh:=Zd (Qc 44 hs);have HT:=Zd hT;have HE:=Zd hE;have e45:(⟨#[45]⟩:ByteArray).toList=[45]:=by rw[Lib.toList_data]
  rw[e45]at hne hne2;clear h hT hE e45;go_enter func37,ntmps37;go_wp2_with fail;refine HP.o.mono ?_;rintro e w1 ⟨⟨go,qc,rfl,hno,hF⟩,hb1⟩;have HM:=Zd (Wl go qc (Zw s 44) w1 (by have:=HL.o;omega) HSh.o hF.in (HT.o.later hb1) (HE.o.later hb1));rw[←HR.o]at HM;clear hF;go_wp2_with fail;refine HM.o.mono ?_;rintro e w2 ⟨⟨go2,qc2,rfl,hno2,hF2⟩,hb2⟩;have HF2:=Zd hF2;clear hF2;go_wp2;exact bodyPost_ret (v:=.tuple #[.slice go2 R.1.length qc2,.bool R.2]) (by simp[results,results37,go_sem]) rfl ⟨⟨go2,qc2,rfl,hno2,HF2.o.wide hb1.size (Nat.le_refl _)⟩,hb1.trans (hb2.mono hb1.size)⟩
def Fz(x:ByteArray):Option Int:=if x=⟨#[]⟩then some 0 else if x=Qs 1 then some 1 else if x=Qs 2 then some 2 else if x=Qs 3 then some 3 else if x=Qs 4 then some 4 else none
theorem Gc{x:ByteArray}{k:Nat}(hk:k<5)(h:x=Qs (k:Int)):Fz x=some (k:Int):=by
 subst h
 rcases(show k=0∨k=1∨k=2∨k=3∨k=4 from by omega)with rfl|rfl|rfl|rfl|rfl <;> decide
theorem Ce{x:ByteArray}(h:∀j:Nat,j<5→x≠Qs (j:Int)):Fz x=none:=by
 have h0:=h 0 (by omega);have h1:x≠Qs 1:=h 1 (by omega);have h2:x≠Qs 2:=h 2 (by omega);have h3:x≠Qs 3:=h 3 (by omega);have h4:x≠Qs 4:=h 4 (by omega)
 unfold Fz
 rw[if_neg (by simpa[Qs]using h0),if_neg h1,if_neg h2,if_neg h3,if_neg h4]
def Jy(ps:List ByteArray):(Int×Int×Int)×Bool :=
 match Jm (ps.drop 1)with
 |some [a,b]=>(match Fz (el ps 0)with|some k=>((k,a,b),true)|none=>((0,0,0),false))
 |_=>((0,0,0),false)
theorem Pz{ps:List ByteArray}(h:Jm (ps.drop 1)=none):Jy ps=((0,0,0),false):=by rw[Jy,h]
theorem Fc{ps:List ByteArray}{l:List Int}(h:Jm (ps.drop 1)=some l)(hl:l.length≠2):Jy ps=((0,0,0),false):=by
 rw[Jy,h]
 match l,hl with
 | [],_=>rfl
 | [_],_=>rfl
 | [_,_],h=>simp at h
 |_::_::_::_,_=>rfl
theorem Xo{ps:List ByteArray}{a b:Int}(h:Jm (ps.drop 1)=some [a,b]):Jy ps=match Fz (el ps 0)with|some k=>((k,a,b),true)|none=>((0,0,0),false):=by rw[Jy,h]
theorem Fb{n:Nat}{W:World}{b off:Nat}{ws:List ByteArray}(h:kS.In n W (some ⟨b,off,none⟩) ws)(hb:b<n):kS.In n W (some ⟨b,off+1,none⟩) (ws.drop 1):=by
 refine texts_mk hb fun j hj=>?_
 rw[List.length_drop]at hj;obtain⟨b2,off2,e,_,hc⟩:=Ks h (k:=j+1) (by omega)
 cases e
 have:=hc (j+1) (by omega);rw[el_drop,show off+1+j=off+(j+1)by omega,show 1+j=j+1 by omega];exact this
theorem Tryz.ixW0(W:World):(Instr.index 117 (.agg #[.string ⟨#[]⟩,.string ⟨#[109,97,112]⟩,.string ⟨#[102,105,108,116,101,114]⟩,.string ⟨#[101,120,112,97,110,100]⟩,.string ⟨#[112,111,105,115,111,110]⟩]) (.int .i64 0)).run prog W=.ok (.string ⟨#[]⟩) W:=by kernel_rfl
theorem Tryz.ixW1(W:World):(Instr.index 117 (.agg #[.string ⟨#[]⟩,.string ⟨#[109,97,112]⟩,.string ⟨#[102,105,108,116,101,114]⟩,.string ⟨#[101,120,112,97,110,100]⟩,.string ⟨#[112,111,105,115,111,110]⟩]) (.int .i64 1)).run prog W=.ok (.string ⟨#[109,97,112]⟩) W:=by kernel_rfl
theorem Tryz.ixW2(W:World):(Instr.index 117 (.agg #[.string ⟨#[]⟩,.string ⟨#[109,97,112]⟩,.string ⟨#[102,105,108,116,101,114]⟩,.string ⟨#[101,120,112,97,110,100]⟩,.string ⟨#[112,111,105,115,111,110]⟩]) (.int .i64 2)).run prog W=.ok (.string ⟨#[102,105,108,116,101,114]⟩) W:=by kernel_rfl
theorem Tryz.ixW3(W:World):(Instr.index 117 (.agg #[.string ⟨#[]⟩,.string ⟨#[109,97,112]⟩,.string ⟨#[102,105,108,116,101,114]⟩,.string ⟨#[101,120,112,97,110,100]⟩,.string ⟨#[112,111,105,115,111,110]⟩]) (.int .i64 3)).run prog W=.ok (.string ⟨#[101,120,112,97,110,100]⟩) W:=by kernel_rfl
theorem Tryz.ixW4(W:World):(Instr.index 117 (.agg #[.string ⟨#[]⟩,.string ⟨#[109,97,112]⟩,.string ⟨#[102,105,108,116,101,114]⟩,.string ⟨#[101,120,112,97,110,100]⟩,.string ⟨#[112,111,105,115,111,110]⟩]) (.int .i64 4)).run prog W=.ok (.string ⟨#[112,111,105,115,111,110]⟩) W:=by kernel_rfl
theorem readStage_is(s:ByteArray)(w:World)(hs:s.size≤1048576)(hT:PowTab w)(hE:NErr w)(hW:Wds w) :
  Calls prog 35 #[.string s] w fun e w'=>e=.returned (.tuple #[.agg #[.int .i64 (Jy (Zw s 58)).1.1,.int .i64 (Jy (Zw s 58)).1.2.1,.int .i64 (Jy (Zw s 58)).1.2.2],.bool (Jy (Zw s 58)).2])∧Below w.1.size w w':=by
 obtain⟨⟨⟨z1,z2,z3⟩,y⟩,hR⟩:∃R,Jy (Zw s 58)=R:=⟨_,rfl⟩;rw[hR];dsimp only;have HR:=Zd hR;have hB0:=Zk w (.cells #[.int .i64 0,.int .i64 0,.int .i64 0] 24);have X0:=Zd (Bx.new (w:=w) [.int .i64 0,.int .i64 0,.int .i64 0] 24 rfl);have HP:=Zd (Xj s 58 (w.alloc (.cells #[.int .i64 0,.int .i64 0,.int .i64 0] 24)) hs (by omega));have hL:=Qr s 58;have hpos:=Jd s 58;have HSh:=Zd (Qc 58 hs);have HT:=Zd (hT.later hB0);have HE:=Zd (hE.later hB0);have HW:=Zd (hW.later hB0);have e58:((58:UInt8).toNat:Int)=58:=rfl;rw[e58]at hpos
 generalize Zw s 58=ps at HP hL hpos HSh HR
 clear hR hT hE hW e58;go_enter func35,ntmps35;go_wp2_with fail;refine HP.o.mono ?_;rintro e w1 ⟨⟨go,qc,rfl,hno,hF⟩,hb1⟩;have X1:=Zd (X0.o.later hb1);have hB1:=hB0.trans (hb1.mono hB0.size);obtain⟨g,rfl,hg1,hg2,hg3,_⟩:=hF.at hpos;have hcap:=hF.cap;have HI:=Zd hF.in;have HT1:=Zd (HT.o.later hb1);have HE1:=Zd (HE.o.later hb1);have HW1:=Zd (HW.o.later hb1);have hlen1:(ps.drop 1).length=ps.length-1:=List.length_drop;have HM:∀a c,kS.In w1.1.size w1 a (ps.drop 1)→Calls prog 75 #[.slice a (ps.length-1) c] w1 (AnsNB w1 (He (ps.drop 1))):=fun a c hz=>by
  have:=Wl a c (ps.drop 1) w1 (by omega) (fun x hx=>HSh.o x (List.mem_of_mem_drop hx)) hz HT1.o HE1.o;rw[hlen1]at this;exact this
 have HMM:=Zd HM;have hwd:=Fb HI.o hg3;have HWD:=Zd hwd;have hend:Zi (qc=1→kS.In w1.1.size w1 (some ⟨g,0,none⟩) (ps.drop 1)):=fun h1=>by
  have:ps.drop 1=[]:=List.length_eq_zero_iff.1 (by rw[hlen1];omega);rw[this];exact .inl rfl
 clear hF HP X0 HT HE HW HM hwd hb1 hlen1 hno hB0
 by_cases hq:qc=1
 case' pos=>have HCC:=Zd (HMM.o _ 0 (hend.o hq))
 case' neg=>have HCC:=Zd (HMM.o _ (qc-1) HWD.o)
 all_goals
  clear hend HMM HWD;go_wp2_with fail;refine HCC.o.mono ?_;rintro e w2 ⟨⟨go2,qc2,rfl,hno2,hF2⟩,hb2⟩;have hB2:=hB1.trans (hb2.mono hB1.size);have X2:=Zd (X1.o.later hb2)
  cases hn:Jm (ps.drop 1)with
  |none =>
   have hE3:=HR.o;rw[Pz hn]at hE3;obtain⟨⟨rfl,rfl,rfl⟩,rfl⟩:(z1=0∧z2=0∧z3=0)∧y=false:=by simpa[eq_comm]using hE3
   rw[Rj hn];clear hF2 hE3 hn;obtain⟨x0,x1,x2⟩:=X2.o.y3;have y0:=X2.o.f 0 rfl;have y1:=X2.o.f 1 rfl;have y2:=X2.o.f 2 rfl;go_wp2;refine bodyPost_ret (v:=.tuple #[.agg #[.int .i64 0,.int .i64 0,.int .i64 0],.bool false]) (by simp[results,results35,go_sem,x0,x1,x2]) rfl ⟨rfl,?_⟩;exact((hB2|> bbs)|> bbs).setCell (p:=⟨w.1.size,2,none⟩) (Nat.le_refl _) _
  |some l =>
   rw[Gz hn]at hF2 ⊢;dsimp only at hF2 ⊢
   by_cases hl2:l.length=2
   case neg =>
    have hE3:=HR.o;rw[Fc hn hl2]at hE3;obtain⟨⟨rfl,rfl,rfl⟩,rfl⟩:(z1=0∧z2=0∧z3=0)∧y=false:=by simpa[eq_comm]using hE3
    have hl3:((l.length:Int) != 2)=true:=by simp;omega
    have hl4:((l.length:Int)==2)=false:=by simp;omega
    clear hF2 hE3 hn;obtain⟨x0,x1,x2⟩:=X2.o.y3;have y0:=X2.o.f 0 rfl;have y1:=X2.o.f 1 rfl;have y2:=X2.o.f 2 rfl;go_wp2;refine bodyPost_ret (v:=.tuple #[.agg #[.int .i64 0,.int .i64 0,.int .i64 0],.bool false]) (by simp[results,results35,go_sem,x0,x1,x2]) rfl ⟨rfl,?_⟩;exact((hB2|> bbs)|> bbs).setCell (p:=⟨w.1.size,2,none⟩) (Nat.le_refl _) _
   match l,hl2,hn,hF2 with
   | [a,b],_,hn,hF2 =>
    have HN:=Zd hn;clear hn;have hw:=HW1.o.later hb2;have g0:w2.cell? ⟨0,0,none⟩=some (.string ⟨#[]⟩):=hw.cell 0 (by omega);have g1:w2.cell? ⟨0,1,none⟩=some (.string ⟨#[109,97,112]⟩):=hw.cell 1 (by omega);have g2:w2.cell? ⟨0,2,none⟩=some (.string ⟨#[102,105,108,116,101,114]⟩):=hw.cell 2 (by omega);have g3:w2.cell? ⟨0,3,none⟩=some (.string ⟨#[101,120,112,97,110,100]⟩):=hw.cell 3 (by omega);have g4:w2.cell? ⟨0,4,none⟩=some (.string ⟨#[112,111,105,115,111,110]⟩):=hw.cell 4 (by omega);have d0:w2.cell? ⟨g,0,none⟩=some (.string (el ps 0)):=by
     obtain⟨b2,off2,e,hb3,hc⟩:=Ks HI.o hpos
     cases e
     exact(hb2.cell (p:=⟨g,0,none⟩) hg3).trans (hc 0 hpos)
    obtain⟨x,hx⟩:∃x,el ps 0=x:=⟨_,rfl⟩;rw[hx]at d0;have HX:=Zd hx;obtain⟨gb,off,rfl,hgb,hcs⟩:=Zo hF2.in (k:=0) (by simp);have e0:=hcs 0 (by simp);have e1:=hcs 1 (by simp);rw[Kd,Nat.add_zero]at e0;rw[Vl,Kd]at e1;clear hw hx hcs hF2;obtain⟨x0,x1,x2⟩:=X2.o.y3;have y0:=X2.o.f 0 rfl;have y1:=X2.o.f 1 rfl;have y2:=X2.o.f 2 rfl;clear hb2;go_wp2
    go_loop [26] (fun i=>∃k:Nat,k≤5∧i=.int .i64 (k:Int)∧Zi (∀j:Nat,j<k→el ps 0≠Qs (j:Int))) (fun i=>5-(intOf i).toNat)
    case atStart=>exact⟨0,by omega,rfl,fun j hj=>by omega⟩
    case round =>
     obtain⟨k,hk,rfl,hno⟩:=hrel
     rcases(show k=0∨k=1∨k=2∨k=3∨k=4∨k=5 from by omega)with rfl|rfl|rfl|rfl|rfl|rfl
     ·by_cases he:x=Qs ((0:Nat):Int)
      ·have hix:=Tryz.ixW0 w2;have he1:(([]:List UInt8)==x.toList)=true:=by rw[he,Lib.toList_data];rfl
       have hE3:=HR.o;rw[Xo HN.o,Gc (k:=0) (by omega) (by rw[HX.o];exact he)]at hE3;obtain⟨⟨rfl,rfl,rfl⟩,rfl⟩:(z1=0∧z2=a∧z3=b)∧y=true:=by simpa[eq_comm]using hE3
       clear he hE3;go_wp2
       go_region
       all_goals go_wp2
       all_goals refine bodyPost_ret (v:=.tuple #[.agg #[.int .i64 0,.int .i64 z2,.int .i64 z3],.bool true]) (by simp[results,results35,go_sem,x0,x1,x2]) rfl ⟨rfl,?_⟩
       all_goals exact((hB2.drew|> bbs)|> bbs).setCell (p:=⟨w.1.size,2,none⟩) (Nat.le_refl _) _
      ·have hix:=Tryz.ixW0 w2;have hm1:x.toList≠[]:=fun e=>he (Ze (by rw[e,Lib.toList_data];rfl))
       have hm2:([]:List UInt8)≠x.toList:=fun e=>hm1 e.symm
       have hm3:(([]:List UInt8)==x.toList)=false:=by rw[beq_eq_false_iff_ne];exact hm2
       have HH:Zi (∀j:Nat,j<0+1→el ps 0≠Qs (j:Int)):=fun j hj=>by
        rcases Nat.lt_succ_iff_lt_or_eq.1 hj with h|rfl
        ·exact hno.o j h
        ·rw[HX.o];exact he
       clear he;go_wp2;go_round
       case rel=>exact⟨1,by omega,by go_num,HH⟩
       case measure=>simp[intOf] <;> omega
     ·by_cases he:x=Qs ((1:Nat):Int)
      ·have hix:=Tryz.ixW1 w2;have he1:(([109,97,112]:List UInt8)==x.toList)=true:=by rw[he,Lib.toList_data];rfl
       have hE3:=HR.o;rw[Xo HN.o,Gc (k:=1) (by omega) (by rw[HX.o];exact he)]at hE3;obtain⟨⟨rfl,rfl,rfl⟩,rfl⟩:(z1=1∧z2=a∧z3=b)∧y=true:=by simpa[eq_comm]using hE3
       clear he hE3;go_wp2
       go_region
       all_goals go_wp2
       all_goals refine bodyPost_ret (v:=.tuple #[.agg #[.int .i64 1,.int .i64 z2,.int .i64 z3],.bool true]) (by simp[results,results35,go_sem,x0,x1,x2]) rfl ⟨rfl,?_⟩
       all_goals exact((hB2.drew|> bbs)|> bbs).setCell (p:=⟨w.1.size,2,none⟩) (Nat.le_refl _) _
      ·have hix:=Tryz.ixW1 w2;have hm1:x.toList≠[109,97,112]:=fun e=>he (Ze (by rw[e,Lib.toList_data];rfl))
       have hm2:([109,97,112]:List UInt8)≠x.toList:=fun e=>hm1 e.symm
       have hm3:(([109,97,112]:List UInt8)==x.toList)=false:=by rw[beq_eq_false_iff_ne];exact hm2
       have HH:Zi (∀j:Nat,j<1+1→el ps 0≠Qs (j:Int)):=fun j hj=>by
        rcases Nat.lt_succ_iff_lt_or_eq.1 hj with h|rfl
        ·exact hno.o j h
        ·rw[HX.o];exact he
       clear he;go_wp2;go_round
       case rel=>exact⟨2,by omega,by go_num,HH⟩
       case measure=>simp[intOf] <;> omega
     ·by_cases he:x=Qs ((2:Nat):Int)
      ·have hix:=Tryz.ixW2 w2;have he1:(([102,105,108,116,101,114]:List UInt8)==x.toList)=true:=by rw[he,Lib.toList_data];rfl
       have hE3:=HR.o;rw[Xo HN.o,Gc (k:=2) (by omega) (by rw[HX.o];exact he)]at hE3;obtain⟨⟨rfl,rfl,rfl⟩,rfl⟩:(z1=2∧z2=a∧z3=b)∧y=true:=by simpa[eq_comm]using hE3
       clear he hE3;go_wp2
       go_region
       all_goals go_wp2
       all_goals refine bodyPost_ret (v:=.tuple #[.agg #[.int .i64 2,.int .i64 z2,.int .i64 z3],.bool true]) (by simp[results,results35,go_sem,x0,x1,x2]) rfl ⟨rfl,?_⟩
       all_goals exact((hB2.drew|> bbs)|> bbs).setCell (p:=⟨w.1.size,2,none⟩) (Nat.le_refl _) _
      ·have hix:=Tryz.ixW2 w2;have hm1:x.toList≠[102,105,108,116,101,114]:=fun e=>he (Ze (by rw[e,Lib.toList_data];rfl))
       have hm2:([102,105,108,116,101,114]:List UInt8)≠x.toList:=fun e=>hm1 e.symm
       have hm3:(([102,105,108,116,101,114]:List UInt8)==x.toList)=false:=by rw[beq_eq_false_iff_ne];exact hm2
       have HH:Zi (∀j:Nat,j<2+1→el ps 0≠Qs (j:Int)):=fun j hj=>by
        rcases Nat.lt_succ_iff_lt_or_eq.1 hj with h|rfl
        ·exact hno.o j h
        ·rw[HX.o];exact he
       clear he;go_wp2;go_round
       case rel=>exact⟨3,by omega,by go_num,HH⟩
       case measure=>simp[intOf] <;> omega
     ·by_cases he:x=Qs ((3:Nat):Int)
      ·have hix:=Tryz.ixW3 w2;have he1:(([101,120,112,97,110,100]:List UInt8)==x.toList)=true:=by rw[he,Lib.toList_data];rfl
       have hE3:=HR.o;rw[Xo HN.o,Gc (k:=3) (by omega) (by rw[HX.o];exact he)]at hE3;obtain⟨⟨rfl,rfl,rfl⟩,rfl⟩:(z1=3∧z2=a∧z3=b)∧y=true:=by simpa[eq_comm]using hE3
       clear he hE3;go_wp2
       go_region
       all_goals go_wp2
       all_goals refine bodyPost_ret (v:=.tuple #[.agg #[.int .i64 3,.int .i64 z2,.int .i64 z3],.bool true]) (by simp[results,results35,go_sem,x0,x1,x2]) rfl ⟨rfl,?_⟩
       all_goals exact((hB2.drew|> bbs)|> bbs).setCell (p:=⟨w.1.size,2,none⟩) (Nat.le_refl _) _
      ·have hix:=Tryz.ixW3 w2;have hm1:x.toList≠[101,120,112,97,110,100]:=fun e=>he (Ze (by rw[e,Lib.toList_data];rfl))
       have hm2:([101,120,112,97,110,100]:List UInt8)≠x.toList:=fun e=>hm1 e.symm
       have hm3:(([101,120,112,97,110,100]:List UInt8)==x.toList)=false:=by rw[beq_eq_false_iff_ne];exact hm2
       have HH:Zi (∀j:Nat,j<3+1→el ps 0≠Qs (j:Int)):=fun j hj=>by
        rcases Nat.lt_succ_iff_lt_or_eq.1 hj with h|rfl
        ·exact hno.o j h
        ·rw[HX.o];exact he
       clear he;go_wp2;go_round
       case rel=>exact⟨4,by omega,by go_num,HH⟩
       case measure=>simp[intOf] <;> omega
     ·by_cases he:x=Qs ((4:Nat):Int)
      ·have hix:=Tryz.ixW4 w2;have he1:(([112,111,105,115,111,110]:List UInt8)==x.toList)=true:=by rw[he,Lib.toList_data];rfl
       have hE3:=HR.o;rw[Xo HN.o,Gc (k:=4) (by omega) (by rw[HX.o];exact he)]at hE3;obtain⟨⟨rfl,rfl,rfl⟩,rfl⟩:(z1=4∧z2=a∧z3=b)∧y=true:=by simpa[eq_comm]using hE3
       clear he hE3;go_wp2
       go_region
       all_goals go_wp2
       all_goals refine bodyPost_ret (v:=.tuple #[.agg #[.int .i64 4,.int .i64 z2,.int .i64 z3],.bool true]) (by simp[results,results35,go_sem,x0,x1,x2]) rfl ⟨rfl,?_⟩
       all_goals exact((hB2.drew|> bbs)|> bbs).setCell (p:=⟨w.1.size,2,none⟩) (Nat.le_refl _) _
      ·have hix:=Tryz.ixW4 w2;have hm1:x.toList≠[112,111,105,115,111,110]:=fun e=>he (Ze (by rw[e,Lib.toList_data];rfl))
       have hm2:([112,111,105,115,111,110]:List UInt8)≠x.toList:=fun e=>hm1 e.symm
       have hm3:(([112,111,105,115,111,110]:List UInt8)==x.toList)=false:=by rw[beq_eq_false_iff_ne];exact hm2
       have HH:Zi (∀j:Nat,j<4+1→el ps 0≠Qs (j:Int)):=fun j hj=>by
        rcases Nat.lt_succ_iff_lt_or_eq.1 hj with h|rfl
        ·exact hno.o j h
        ·rw[HX.o];exact he
       clear he;go_wp2;go_round
       case rel=>exact⟨5,by omega,by go_num,HH⟩
       case measure=>simp[intOf] <;> omega
     ·have hE3:=HR.o;rw[Xo HN.o,Ce hno.o]at hE3;obtain⟨⟨rfl,rfl,rfl⟩,rfl⟩:(z1=0∧z2=0∧z3=0)∧y=false:=by simpa[eq_comm]using hE3
      clear hE3;go_wp2;refine bodyPost_ret (v:=.tuple #[.agg #[.int .i64 0,.int .i64 0,.int .i64 0],.bool false]) (by simp[results,results35,go_sem,x0,x1,x2]) rfl ⟨rfl,?_⟩;exact((hB2|> bbs)|> bbs).setCell (p:=⟨w.1.size,2,none⟩) (Nat.le_refl _) _
section
open Go Go.RowKit
section
variable {P:Program} {ops:Array Oper} {Q:Exit→Act→World→Prop} {md:Region.Mode} {S:World→Prop} {zs:Nat→Bool}
theorem Walks.pair{n i j:Nat}{ls:Array Bool}{a:Act}{w:World}{o o2:Oper}(hr:Region.ready md ops ls=[i,j])(ho:ops[i]? = some o)(ho2:ops[j]? = some o2)
  (h:∀K:Act→World→Prop,Shut (∀b y,(zs i=false→S y)→((zs i=false→S y)→Walks P md ops Q S zs n (ls.setIfInBounds i true) b y)→K b y)→if Region.wanted o (yielded ops a.tmps)=true then Oper.wp P o a w K Q else K (a.put o.dst undef) w)
  (h2:∀K:Act→World→Prop,Shut (∀b y,(zs j=false→S y)→((zs j=false→S y)→Walks P md ops Q S zs n (ls.setIfInBounds j true) b y)→K b y)→if Region.wanted o2 (yielded ops a.tmps)=true then Oper.wp P o2 a w K Q else K (a.put o2.dst undef) w):Walks P md ops Q S zs (n+1) ls a w :=
 ⟨fun e=>(by rw[hr]at e;cases e),fun k hk=>by
  rw[hr]at hk
  rcases List.mem_cons.1 hk with rfl|hk
  ·exact wpOp_step ho fun K hK=>h K fun b y h1 h2=>hK b y ⟨h1,h2 h1⟩
  ·obtain rfl:=List.mem_singleton.1 hk;exact wpOp_step ho2 fun K hK=>h2 K fun b y h1 h3=>hK b y ⟨h1,h3 h1⟩⟩
end
end
end Go.Proofs.YtdacedbfnlkghaaGreatDoor