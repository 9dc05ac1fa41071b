/- The greatest of a row; a row backward: what the program's widest wants. A value is led on. A value comes out. Whether a node is blocked: the program. A value is led on. Bounds of what a pipe holds behind n moves, plainly. A region that draws its order in a round of a range over a function: walked as one outside. No conditions but those written. -/
import Derived.Test.YtdacedbfnlkghaaGreatDoorUThWp
import Derived.OrdersIn
namespace Go.Proofs.YtdacedbfnlkghaaGreatDoor
set_option maxHeartbeats 2000000
set_option maxRecDepth 100000
open Go.RowKit Go.Proofs.Tryz
section
open Go.RowKit Go.Shelf
attribute [local go_sem] Oper.semAt_some
theorem maxI_any(ao:Option Addr)(cap:Nat)(l:List Int)(w:World)(h1:1≤l.length)(hl:l.length≤1048576)(hb:∀j,j<l.length→0≤el l j)(hz:kI.In w.1.size w ao l) :
  Calls prog 196 #[.slice ao l.length cap] w fun e w'=>e=.returned (.int .i64 (Nf l))∧w'=w:=by
 obtain⟨b,off,rfl,hb0,hc⟩:=Zo hz (k:=0) (by omega);have HC:=Zd hc;have HB:=Zd hb;have c0:=hc 0 (by omega);rw[Nat.add_zero]at c0;have hx0:Zi (el l 0=Nf (l.take 1)):=by
  rw[Zi,Zy (by omega),List.take_zero,List.nil_append];have:=hb 0 (by omega);simp only[Nf];omega
 generalize el l 0=x0 at c0 hx0
 clear hc hz hb;have hli:(1:Int)≤(l.length:Int):=by omega
 go_enter func196,ntmps196;go_wp2
 go_loop [3,4] (fun v i=>∃(k:Nat)(z:Int),i=.int .i64 (k:Int)∧v=.int .i64 z∧1≤k∧k≤l.length∧Zi (z=Nf (l.take k))) (fun _ i=>l.length-(intOf i).toNat)
 case atStart=>exact⟨1,x0,rfl,rfl,Nat.le_refl _,h1,hx0⟩
 case round =>
  clear hx0 c0;obtain⟨k,z,rfl,rfl,hk1,hk,hz⟩:=hrel
  by_cases hlt:k<l.length
  ·have ck:=HC.o k hlt;have HS:Zi (max z (el l k)=Nf (l.take (k+1))):=by rw[Zi,Zy hlt,maxL_snoc _ _ (HB.o k hlt),←hz.o]
   generalize el l k=x at ck HS
   have hki:(k:Int)<(l.length:Int):=by omega
   go_wp2;go_round
   case rel=>exact⟨k+1,_,by go_num,rfl,by omega,by omega,by rw[Zi,←HS.o] <;> split <;> omega⟩
   case measure=>simp[intOf];omega
  ·obtain rfl:k=l.length:=by omega
   have HZ:Zi (z=Nf l):=by rw[Zi,hz.o,List.take_length]
   go_wp2;go_ret;exact⟨Xc HZ.o,rfl⟩
theorem Ra(nm:ByteArray)(kd sa sb cp:Int)(nxo:Option Addr)(n nxc:Nat)(w:World) :
  Calls prog 194 #[.agg #[.string nm,.int .i64 kd,.int .i64 sa,.int .i64 sb,.int .i64 cp,.slice nxo n nxc]] w fun e w'=>e=.returned (.bool ((n:Int)==0))∧Below w.1.size w w':=by
 go_enter func194,ntmps194;go_wp2;go_ret;exact⟨rfl,Zk _ _⟩
theorem Hc(a:Option Addr)(n c:Nat)(w:World) :
  Calls prog 193 #[.slice a n c] w fun e w'=>e=.returned (.func (.func 220) #[] #[.pointer (some ⟨w.1.size,0,none⟩)])∧w'=w.alloc (.cells #[.slice a n c] 25):=by
 go_enter func193,ntmps193;go_wp2;go_ret;exact⟨rfl,rfl⟩
def Same2(b c:Nat)(W W':World):Prop:=SameB b W W'∧SameB c W W'
theorem Same2.trans{b c:Nat}{A B C:World}(h:Same2 b c A B)(k:Same2 b c B C):Same2 b c A C:=⟨h.1.trans k.1,h.2.trans k.2⟩
def bkA(ts:List Int)(t:Nat):Array Value := #[Value.int .i64 ((ts.length:Int)-1-(t:Int)),tvI (el ts.reverse t)]
theorem back1_in(F:Fence)(n:Nat)(hAll:F.fn 220)(hro:F.round=none)(hn:1≤n)(l Bs b:Nat)(ao:Option Addr)(cap:Nat)(ts:List Int)(hreach:ts.length≤1048576)(J Jx:List Nat→World→Prop)(W:World)(_:AbidesFrom W.1.size J)
  (hY:∀(pre:List Nat)(x:Nat)(W:World),J pre W→pre.length<ts.length→YieldAt F (n-1) prog l (bkA ts x) W fun e W' =>
   (e=.returned (.bool true)∧J (pre++[x]) W'∧Same2 b Bs W W')∨(e=.returned (.bool false)∧Jx (pre++[x]) W'))
  (hBs:W.cell? ⟨Bs,0,none⟩=some (.slice ao ts.length cap)) (hc:ts=[]∨∃off,ao=some ⟨b,off,none⟩∧∀j,j<ts.length→W.cell? ⟨b,off+j,none⟩=some (.int .i64 (el ts j))) (h0:J [] W) :
  CallsIn F n prog 220 #[.func (.yield l) #[] #[],.pointer (some ⟨Bs,0,none⟩)] W fun e W'=>(∃v,e=.returned v)∧
   ((∃ys,ys=List.range ts.length∧J ys W')∨(∃pre,(∃k,k≤ts.length∧pre=List.range k)∧Jx pre W')):=by
 refine callsIn_of_wp func220 rfl hAll ?_ hro;simp only[ntmps220,List.size_toArray,List.length_cons,List.length_nil,Nat.reduceAdd,Nat.reduceSub,Array.replicate_succ,Array.replicate_zero,List.push_toArray,List.append_toArray,List.nil_append,List.cons_append]
 gi_wp2
 gi_loopw [3] (fun i wr=>∃k m:Nat,m+k=ts.length∧i=.int .i64 ((m:Int)-1)∧J (List.range k) wr∧Zi (Same2 b Bs W wr))
  (fun i _=>(intOf i+1).toNat)
 case atStart=>exact⟨0,ts.length,by omega,rfl,h0,⟨rfl,rfl⟩⟩
 case round =>
  obtain⟨k,m,hkm,rfl,hJs,hnx⟩:=hrel
  cases m with
  |succ m =>
   rcases hc with rfl|⟨off,rfl,hc⟩
   ·simp at hkm
   have c1:=hc m (by omega);have d1:=(hnx.o.1.cell (off+m)).trans c1;have dB:=(hnx.o.2.cell 0).trans hBs;have hel:el ts m=el ts.reverse k:=by rw[Nx (by omega)];congr 1;omega
   have hJa:=hJs;obtain⟨fn,tmps,assign,body,hy,hR⟩:=hY _ k _ hJa (by rw[List.length_range];omega);have e2:((ts.length:Int)-1-(k:Int))=(m:Int):=by omega
   simp only[bkA,tvI,←hel,e2]at hy;have e1:(((m+1:Nat):Int)-1)=(m:Int):=by omega
   obtain⟨x1,ex1⟩:=nmd (el ts m);rw[←ex1]at hy d1;have hmi:(m:Int)<(ts.length:Int):=by omega
   rw[e1];clear c1 hc ex1 hel e1 e2 hBs
   gi_wp2
   refine hR.mono ?_;rintro e W3 (⟨rfl,hJ3,hk3⟩|⟨rfl,hJx3⟩)
   ·have hk4:Same2 b Bs wr W3:=hk3
    gi_wp2
    go_roundw
    case rel=>exact⟨k+1,m,by omega,rfl,by rw[List.range_succ];exact hJ3,hnx.o.trans hk4⟩
    case measure=>simp[intOf]
   ·gi_wp2
    refine bodyPost_ret (results_none rfl _ _ _) rfl ?_;exact⟨⟨_,rfl⟩,.inr ⟨_,⟨k+1,by omega,List.range_succ.symm⟩,hJx3⟩⟩
  |zero =>
   obtain rfl:k=ts.length:=by omega
   gi_wp2
   go_end0
   exact⟨⟨_,rfl⟩,.inl ⟨_,rfl,hJs⟩⟩
theorem Ct(F:Fence)(n:Nat)(hAll:F.fn 220)(hro:F.round=none)(hn:1≤n)(Bs b:Nat)(ao:Option Addr)(cap:Nat)(ts:List Int)(hreach:ts.length≤1048576)(w:World)(hBs:Bs<w.1.size)
  (hc:w.cell? ⟨Bs,0,none⟩=some (.slice ao ts.length cap)) (hI:ts=[]∨∃off,ao=some ⟨b,off,none⟩∧b<w.1.size∧∀j,j<ts.length→w.cell? ⟨b,off+j,none⟩=some (.int .i64 (el ts j))) :
  SeqStopsK F n prog 220 #[.pointer (some ⟨Bs,0,none⟩)] (fun x:Nat=>bkA ts x) (Same2 b Bs) (fun ys=>ys=List.range ts.length)
   (fun pre=>∃k,k≤ts.length∧pre=List.range k) ts.length w:=fun l J Jx W hW hJ _ hY h0=>by
 have hc':=(hW.cell (p:=⟨Bs,0,none⟩) hBs).trans hc;refine back1_in F n hAll hro hn l Bs b ao cap ts hreach J Jx W hJ hY hc' ?_ h0
 rcases hI with h|⟨off,h1,hb,hcs⟩
 ·exact .inl h
 ·exact .inr ⟨off,h1,fun j hj=>(hW.cell (p:=⟨b,off+j,none⟩) hb).trans (hcs j hj)⟩
theorem make_in{F:Fence}{n:Nat}(w:World){ops:Array Oper}{rest:List Oper}{o:Oper}{a:Act}{Q:Exit→Act→World→Prop}
  (hg:o.guard=none) (l c:Operand) (hop:o.op=Op.makeSlice 25 l c) (m:Nat) (hl:a.eval l=.int .i64 (m:Int)) (hc:a.eval c=.int .i64 (m:Int)) (hm:m≤1048576)
  (hK:∀w',Bx w' w.1.size ((List.replicate m (0:Int)).map (Value.int .i64))→Below w.1.size w w'→wpListIn F n prog ops Q rest (a.put o.dst (.slice (some ⟨w.1.size,0,none⟩) m m)) w') :
  wpListIn F n prog ops Q (o::rest) a w:=by
 obtain⟨i0,hi,hz0,hz1,hz2⟩:=info_parts Tryz.info3;refine wpListIn_plain hg fun K hK'=>?_
 obtain⟨w',hrun,r1,r2⟩:=run_make_full (P:=prog) w w.1.size 25 3 i0 (.int .i64 0) 1 underlying25 hi hz0 hz1 .i64 .i64 m (by rw[hz2];omega) (by unfold maxLen;omega) (Nat.le_refl _)
 unfold Oper.wpIn
 refine⟨by simp[Oper.about,hop],?_⟩;rw[Oper.semAt_plain F _ _ (by rw[hop];intro c hc';cases hc')]
 simp[execOp,hop,hl,hc,hrun,Result.andThen]
 refine hK' _ _ (hK w' ?_ ((Below.refl _ _).grown r2 (Nat.le_refl _) (fun k e=>by cases e)));have h:Bx w' w.1.size (madeCells #[Value.int .i64 0] (m*1)).toList:=Hs r1;rw[toList_madeCells_one,Nat.mul_one]at h;rw[rep_mapI];exact h
end
def Jk(t:Int×Int×Int)(bx:List (List (Int×Int×Int))):List Int→List (List (Int×Int×Int))
 | []=>bx
 |x::r=>Jk t (bx.set x.toNat (el bx x.toNat++[t])) r
theorem Yq(t:Int×Int×Int):∀(l:List Int)(bx:List (List (Int×Int×Int))),(Jk t bx l).length=bx.length
 | [],_=>rfl
 |x::r,bx=>by rw[Jk,Yq t r,List.length_set]
theorem Pv(t:Int×Int×Int):∀(l:List Int)(bx:List (List (Int×Int×Int)))(x:Int),Jk t bx (l++[x])=(Jk t bx l).set x.toNat (el (Jk t bx l) x.toNat++[t])
 | [],_,_=>rfl
 |y::r,bx,x=>by rw[List.cons_append,Jk,Jk,Pv t r]
theorem Gr(t:Int×Int×Int):∀(l:List Int)(bx:List (List (Int×Int×Int))),(∀x∈l,∃j:Nat,j<bx.length∧x=(j:Int))→Zs (Jk t bx l)=Zs bx+l.length
 | [],_,_=>rfl
 |y::r,bx,h=>by
  obtain⟨j,hj,rfl⟩:=h y (by simp);have h1:=Jb (ls:=bx) (k:=j) (el bx j++[t]) hj;rw[Jk,Gr t r _ (fun x hx=>by rw[List.length_set];exact h x (by simp[hx])),Int.toNat_natCast];rw[List.length_append,List.length_singleton]at h1;rw[List.length_cons];omega
theorem leadOn_any(lo:Nat)(W:World)(p bb gb goff gn gc:Nat)(sv:Value)(xs:List Value)(ev fv uv:Value)(s:PP)(k:Nat)(it v:Int)(nm:ByteArray)(kd sa sb cp:Int)(nxo:Option Addr)(nxc:Nat)(nx:List Int)
  (h:Flow lo W p bb (.slice (some ⟨gb,goff,none⟩) gn gc) sv xs ev fv uv s) (hg:k<gn) (hgb:gb<lo) (c0:W.cell? ⟨gb,goff+k*6,none⟩=some (.string nm)) (c1:W.cell? ⟨gb,goff+k*6+1,none⟩=some (.int .i64 kd)) (c2:W.cell? ⟨gb,goff+k*6+2,none⟩=some (.int .i64 sa)) (c3:W.cell? ⟨gb,goff+k*6+3,none⟩=some (.int .i64 sb)) (c4:W.cell? ⟨gb,goff+k*6+4,none⟩=some (.int .i64 cp)) (c5:W.cell? ⟨gb,goff+k*6+5,none⟩=some (.slice nxo nx.length nxc))
  (hI:kI.In lo W nxo nx) (hne:nx.length≠0) (hrg:∀x∈nx,∃j:Nat,j<s.bx.length∧x=(j:Int)) (ht:Zs s.bx+nx.length≤100000) :
  Calls prog 241 #[.pointer (some ⟨p,0,none⟩),.int .i64 (k:Int),.int .i64 it,.int .i64 v] W fun e W'=>(∃u,e=.returned u)∧FStep lo p (.slice (some ⟨gb,goff,none⟩) gn gc) sv (FO p bb xs ev fv uv) W W' { s with bx:=Jk (it,v,0) s.bx nx }:=by
 have b0:=h.box.c 0 rfl;have hgi:(k:Int)<(gn:Int):=by omega
 have hie:=Ra nm kd sa sb cp nxo nx.length nxc W;rw[show((nx.length:Int)==0)=false by simpa using hne]at hie;have HIE:=Zd hie;have hp:=h.box.size;have hlo:lo≤W.1.size:=Nat.le_of_lt (Nat.lt_of_le_of_lt h.lop h.box.size);clear hie;go_enter func241,ntmps241;go_wp2_with fail;refine HIE.o.mono ?_;rintro e w1 ⟨rfl,hb1⟩;have F1:=h.later hb1;have e0:=F1.box.c 0 rfl;have e5:=(hb1.cell (p:=⟨gb,goff+k*6+5,none⟩) (by simp only;omega)).trans c5;have HS1:=Zd (FStep.same h hb1);clear F1 b0 c0 c1 c2 c3 c4 c5;go_wp2
 go_loopw [42] (fun i wr=>∃m:Nat,m≤nx.length∧i=.int .i64 (m:Int)∧Zi (FStep lo p (.slice (some ⟨gb,goff,none⟩) gn gc) sv (FO p bb xs ev fv uv) W wr { s with bx:=Jk (it,v,0) s.bx (nx.take m) })) (fun i _=>nx.length-(intOf i).toNat)
 case atStart=>exact⟨0,Nat.zero_le _,rfl,HS1⟩
 case round =>
  obtain⟨m,hm,rfl,hS⟩:=hrel
  by_cases hlt:m<nx.length
  ·obtain⟨bb2,xs2,ev2,fv2,uv2,F2,_,hB2,_,hgo⟩:=hS.o.next;obtain⟨nb,noff,rfl,hnb,hnc⟩:=Zo hI hlt;have cm:=(hB2.cell (p:=⟨nb,noff+m,none⟩) hnb).trans (hnc m hlt);obtain⟨j,hj,hx⟩:=hrg (el nx m) (Zl hlt);rw[hx]at cm;have HT:=Zd (Zy hlt);rw[hx]at HT;have hpl:=Yq (it,v,0) (nx.take m) s.bx;have hpt:=Gr (it,v,0) (nx.take m) s.bx (fun x hx=>hrg x (List.mem_of_mem_take hx));have hlm:(nx.take m).length=m:=by simp;omega
   have hpu:=put_any lo wr p bb2 _ sv xs2 ev2 fv2 uv2 _ j it v 0 F2 (by dsimp only;omega) (by dsimp only;omega);have HPU:=Zd hpu;have HN:Zi (∀w2,FStep lo p (.slice (some ⟨gb,goff,none⟩) gn gc) sv (FO p bb2 xs2 ev2 fv2 uv2) wr w2 { s with bx:=(Jk (it,v,0) s.bx (nx.take m)).set j (el (Jk (it,v,0) s.bx (nx.take m)) j++[(it,v,0)]) }→Zi (FStep lo p (.slice (some ⟨gb,goff,none⟩) gn gc) sv (FO p bb xs ev fv uv) W w2 { s with bx:=Jk (it,v,0) s.bx (nx.take (m+1)) })):=fun w2 h2=>by
    rw[HT.o,Pv,Int.toNat_natCast];exact hgo _ _ _ (Below.refl _ _) h2
   clear hpu hgo F2 hS hpl hpt hlm hnc hx;go_wp2_with fail;refine HPU.o.mono ?_;rintro e w2 ⟨⟨u2,rfl⟩,h2⟩;have H2:=HN.o w2 h2;clear h2 HN HPU;go_wp2;go_roundw
   case rel=>exact⟨m+1,by omega,by go_num,H2⟩
   case measure=>simp[intOf];omega
  ·obtain rfl:m=nx.length:=by omega
   rw[List.take_length]at hS;go_wp2
   first|refine bodyPost_ret (results_none rfl _ _ _) rfl ?_|refine bodyPost_end (results_none rfl _ _ _) rfl ?_
   exact⟨⟨_,rfl⟩,hS.o⟩
theorem leadEnd_any(lo:Nat)(W:World)(p bb gb goff gn gc:Nat)(sv:Value)(xs:List Value)(ev fv uv:Value)(s:PP)(k:Nat)(it v:Int)(nm:ByteArray)(kd sa sb cp:Int)(nxo:Option Addr)(nxc:Nat)
  (h:Flow lo W p bb (.slice (some ⟨gb,goff,none⟩) gn gc) sv xs ev fv uv s) (hg:k<gn) (hgb:gb<lo) (c0:W.cell? ⟨gb,goff+k*6,none⟩=some (.string nm)) (c1:W.cell? ⟨gb,goff+k*6+1,none⟩=some (.int .i64 kd)) (c2:W.cell? ⟨gb,goff+k*6+2,none⟩=some (.int .i64 sa)) (c3:W.cell? ⟨gb,goff+k*6+3,none⟩=some (.int .i64 sb)) (c4:W.cell? ⟨gb,goff+k*6+4,none⟩=some (.int .i64 cp)) (c5:W.cell? ⟨gb,goff+k*6+5,none⟩=some (.slice nxo 0 nxc)) (hem:s.em.length≤1000000) :
  Calls prog 241 #[.pointer (some ⟨p,0,none⟩),.int .i64 (k:Int),.int .i64 it,.int .i64 v] W fun e W'=>(∃u,e=.returned u)∧FStep lo p (.slice (some ⟨gb,goff,none⟩) gn gc) sv (FO p bb xs ev fv uv) W W' { s with em:=s.em++[(it,(k:Int),v)] }:=by
 have b0:=h.box.c 0 rfl;have hgi:(k:Int)<(gn:Int):=by omega
 have hie:=Ra nm kd sa sb cp nxo 0 nxc W;have HIE:=Zd hie;have hp:=h.box.size;have hlo:lo≤W.1.size:=Nat.le_of_lt (Nat.lt_of_le_of_lt h.lop h.box.size);clear hie;go_enter func241,ntmps241;go_wp2_with fail;refine HIE.o.mono ?_;rintro e w1 ⟨rfl,hb1⟩;have F1:=h.later hb1;have e6:=F1.box.c 6 rfl;obtain⟨eo,ec,hev,_,_⟩:=F1.emo.fresh;rw[hev]at e6;have HB1:=Zd hb1;have hp1:=F1.box.size;have hz1:=hb1.size;obtain⟨X,hX⟩:=nmd (w1.alloc (.cells #[.int .i64 it,.int .i64 (k:Int),.int .i64 v] 138));have hbX:Below w1.1.size w1 X:=by rw[hX];exact Zk _ _
 have FX:=F1.later hbX;have hN:kOu.In X.1.size X (some ⟨w1.1.size,0,none⟩) [(it,(k:Int),v)]:=by
  have hx:Bx X w1.1.size [.int .i64 it,.int .i64 (k:Int),.int .i64 v]:=by rw[hX];exact Bx.new (w:=w1) [.int .i64 it,.int .i64 (k:Int),.int .i64 v] 138 rfl
  exact kOu_one hx.size (hx.c 0 rfl) (hx.c 1 rfl) (hx.c 2 rfl)
 have HX:=Zd hX;have HFX:=Zd FX;have HN:=Zd hN;have HBX:=Zd hbX;have hOX:Zi (kOu.Own lo X (.slice eo s.em.length ec) s.em):=by rw[Zi,←hev];exact FX.emo
 have hXs:=hbX.size;have HEV:=Zd hev;have e5w:=(hb1.cell (p:=⟨gb,goff+k*6+5,none⟩) (by simp only;omega)).trans c5;clear hX FX hN hbX F1 b0 c0 c1 c2 c3 c4 c5 hb1;go_wp2_with (at_builtin;rw[←HX.o];refine Kq kOu_ok X rfl (.tmp 23) (.tmp 28) rfl lo (.slice eo s.em.length ec) s.em rfl hOX.o (by omega) (some ⟨w1.1.size,0,none⟩) [(it,(k:Int),v)] 1 1 rfl rfl (by simp) _ HN.o (by simp;omega) ?_;intro v' w3 hO3 hB3 hG3 hw3;have kp:=hG3.block p (by omega) (fun e=>HFX.o.pe (by rw[HEV.o];exact e.symm));have p6:w3.cell? ⟨p,6,none⟩=some (.slice eo s.em.length ec):=(World.cell?_of_block (a:=⟨p,6,none⟩) kp).trans (by have h6:=HFX.o.box.c 6 rfl;rw[HEV.o]at h6;exact h6);have f6:=(World.frozen?_of_block (a:=⟨p,6,none⟩) kp).trans (HFX.o.box.f 6 rfl);have p0:=(World.cell?_of_block (a:=⟨p,0,none⟩) kp).trans (HFX.o.box.c 0 rfl);have n5:=(hB3.cell (p:=⟨gb,goff+k*6+5,none⟩) hgb).trans ((HBX.o.cell (p:=⟨gb,goff+k*6+5,none⟩) (by simp only;omega)).trans e5w);have HSS:=Zd (HFX.o.putEm hO3 hB3 (by rw[HEV.o];exact hG3) (by rw[HEV.o];exact hw3));obtain⟨L,hL⟩:=nmd (s.em++[(it,(k:Int),v)]);rw[←hL]at HSS hO3;have HLL:=Zd hL;clear hL;obtain⟨vo,vc,rfl,_,_⟩:=hO3.fresh;have hgp:gb≠p:=(fun e=>by have:=h.lop;omega);clear kp hG3 hw3 hO3 hB3 e6);have HST:Zi (FStep lo p (.slice (some ⟨gb,goff,none⟩) gn gc) sv (FO p bb xs ev fv uv) W (w3.setCell ⟨p,6,none⟩ (.slice vo L.length vc)) { s with em:=s.em++[(it,(k:Int),v)] }):=by
  rw[Zi,←HLL.o];exact FStep.start h (HB1.o.trans (HBX.o.mono HB1.o.size)) HSS.o
 clear HSS HFX HN HX hOX HBX HB1 HEV;go_wp2
 go_loopw [42] (fun i wr=>i=.int .i64 0∧Zi (FStep lo p (.slice (some ⟨gb,goff,none⟩) gn gc) sv (FO p bb xs ev fv uv) W wr { s with em:=s.em++[(it,(k:Int),v)] })) (fun _ _=>0)
 case atStart=>exact⟨rfl,HST⟩
 case round =>
  obtain⟨rfl,hS⟩:=hrel;go_wp2
  first|refine bodyPost_ret (results_none rfl _ _ _) rfl ?_|refine bodyPost_end (results_none rfl _ _ _) rfl ?_
  exact⟨⟨_,rfl⟩,hS.o⟩
def Wa(gs:List PNode)(k:Nat):Int:=(el gs k).2.2.2.2.1
def blkP(gs:List PNode)(bx:List (List (Int×Int×Int)))(k:Nat)(many:Int):Bool:=(nxP gs k).any fun x=>decide (Wa gs x.toNat-((el bx x.toNat).length:Int)<many)
theorem Tryz.entersBk:∀args w,(callFunc 262 args).run prog w=.ok (.enter 262 args) w:=enters_of func262 (by kernel_rfl) rfl
theorem blocked1_any(lo:Nat)(W:World)(p bb gb goff gn gc q r:Nat)(sv:Value)(xs:List Value)(ev fv uv:Value)(s:PP)(j:Nat)(cp many:Int)(h:Flow lo W p bb (.slice (some ⟨gb,goff,none⟩) gn gc) sv xs ev fv uv s)(hj:j<s.bx.length)(hg:j<gn)(hcp:W.cell? ⟨gb,goff+j*6+4,none⟩=some (.int .i64 cp))(h0:0≤cp)(h1:cp≤1000)(ht:Zs s.bx≤100000)(hq:Bx W q [.pointer (some ⟨p,0,none⟩)])(hr:Bx W r [.int .i64 many]) :
  Calls prog 262 #[.int .i64 (j:Int),.pointer (some ⟨q,0,none⟩),.pointer (some ⟨r,0,none⟩)] W fun e W'=>e=.returned (.bool (decide (cp-((el s.bx j).length:Int)<many)))∧Below W.1.size W W':=by
 have q0:=hq.c 0 rfl;have r0:=hr.c 0 rfl;have HRM:Zi (∀n,Calls prog 263 #[.pointer (some ⟨p,0,none⟩),.int .i64 (j:Int)] (W.drewN n) fun e w'=>e=.returned (.int .i64 (cp-(el s.bx j).length))∧∃m,w'=(W.drewN n).drewN m):=fun n =>
  (Ff lo (W.drewN n) p bb gb goff gn gc sv xs ev fv uv s j cp (h.later (Zc (Below.refl _ _) n)) hj hg hcp h0 h1 ht).mono fun e w' hh=>⟨hh.1,1,hh.2⟩
 generalize(el s.bx j).length=len at HRM ⊢
 go_enter func262,ntmps262;go_wp2
 go_quiet (exact Calls.quiet_of (HRM.o _))
 go_wp2;go_ret;exact⟨rfl,Zc (Below.refl _ _) _⟩
theorem isBlocked_any(lo:Nat)(W:World)(p bb gb goff gc:Nat)(ts:List LNode)(sv:Value)(xs:List Value)(ev fv uv:Value)(s:PP)(k:Nat)(many:Int)(h:Flow lo W p bb (.slice (some ⟨gb,goff,none⟩) ts.length gc) sv xs ev fv uv s)(hn:s.bx.length=ts.length)(hk:k<ts.length)(hlo:lo≤W.1.size)(hz:DIn Ja lo W (some ⟨gb,goff,none⟩) ts)(hE:EdgesIn (ts.map Zz))(hcap:∀j,j<ts.length→0≤Wa (ts.map Zz) j∧Wa (ts.map Zz) j≤1000)(ht:Zs s.bx≤100000) :
  Calls prog 239 #[.pointer (some ⟨p,0,none⟩),.int .i64 (k:Int),.int .i64 many] W fun e W'=>e=.returned (.bool (blkP (ts.map Zz) s.bx k many))∧Below W.1.size W W':=by
 obtain⟨V,hV⟩:=nmd ((W.alloc (.cells #[.pointer (some ⟨p,0,none⟩)] 90)).alloc (.cells #[.int .i64 many] 3));have hbV:Below W.1.size W V:=by rw[hV];exact Qf _ _ _
 have QV:Bx V W.1.size [.pointer (some ⟨p,0,none⟩)]:=by rw[hV];exact(Bx.new [.pointer (some ⟨p,0,none⟩)] _ rfl).alloc _
 have RV:Bx V (W.1.size+1) [.int .i64 many]:=by rw[hV];exact Bx.new [.int .i64 many] _ (by simp)
 have FV:=h.later hbV;have ZV:=hz.below Zf (hbV.mono hlo);obtain⟨b,off,e,hb,hc⟩:=Qw ZV.1 hk;obtain⟨rfl,rfl⟩:gb=b∧goff=off:=by simp at e;exact e
 have c5:=(hc k hk).2.2.2.2.2;have hin:=ZV.2 k hk;have hev:nxP (ts.map Zz) k=(el ts k).2.2.2.2.2.2.2:=by rw[nxP,Jz hk];rfl
 obtain⟨⟨nm,kd,sa,sb,cp,⟨nxo,nxc,nx⟩⟩,ex⟩:∃v,v=el ts k:=⟨_,rfl⟩;rw[←ex]at c5 hin hev;dsimp only at c5 hin hev;have hI:kI.In lo V nxo nx:=hin;have hnl:nx.length≤10:=by rw[←hev];exact hE.few k (by rw[List.length_map];exact hk)
 have hHI:=Zd (hI.up (Nat.le_trans hlo hbV.size));have hcb:Zi (∀x W',x∈nx→Below V.1.size V W'→Calls prog 262 (#[.int .i64 x] ++ #[.pointer (some ⟨W.1.size,0,none⟩),.pointer (some ⟨W.1.size+1,0,none⟩)]) W' fun e w'=>e=.returned (.bool (decide (Wa (ts.map Zz) x.toNat-((el s.bx x.toNat).length:Int)<many)))∧Below W'.1.size W' w'):=fun x W' hx hb'=>by
  obtain⟨j,hj,rfl⟩:=hE.rng k (by rw[List.length_map];exact hk) x (by rw[hev];exact hx);rw[List.length_map]at hj;rw[Int.toNat_natCast];have hcj:W'.cell? ⟨gb,goff+j*6+4,none⟩=some (.int .i64 (Wa (ts.map Zz) j)):=by
   rw[hb'.cell (p:=⟨gb,goff+j*6+4,none⟩) (Nat.lt_of_lt_of_le hb (Nat.le_trans hlo hbV.size)),(hc j hj).2.2.2.2.1,Wa,Jz hj];rfl
  exact blocked1_any lo W' p bb gb goff ts.length gc W.1.size (W.1.size+1) sv xs ev fv uv s j _ many (FV.later hb') (by omega) hj hcj (hcap j hj).1 (hcap j hj).2 ht (QV.later hb') (RV.later hb')
 have HV:=Zd hV;have f0:=FV.box.c 0 rfl;have q0:=QV.c 0 rfl;have hki:(k:Int)<(ts.length:Int):=by omega
 have HBV:=Zd hbV;have HEV:=Zd hev;rw[hV]at f0 q0 c5;clear hV hbV QV RV FV ZV hc hin hI ex hev hz h;have HR:blkP (ts.map Zz) s.bx k many=nx.any fun x=>decide (Wa (ts.map Zz) x.toNat-((el s.bx x.toNat).length:Int)<many):=by rw[blkP,HEV.o]
 rw[HR];obtain⟨y,hy⟩:=nmd (nx.any fun x=>decide (Wa (ts.map Zz) x.toNat-((el s.bx x.toNat).length:Int)<many))
 rw[←hy];have HY:=Zd hy;clear hy HR;go_enter func239,ntmps239;go_wp2_with fail;rw[←HV.o];clear f0 q0 c5 HV;refine(Kg 262 #[.pointer (some ⟨W.1.size,0,none⟩),.pointer (some ⟨W.1.size+1,0,none⟩)] Tryz.entersBk nxo nxc nx (fun x=>decide (Wa (ts.map Zz) x.toNat-((el s.bx x.toNat).length:Int)<many)) V (by omega) hHI.o hcb.o).mono ?_;rintro e w2 ⟨rfl,hb2⟩;have hB2:Below W.1.size W w2:=HBV.o.trans (hb2.mono HBV.o.size);rw[←HY.o];clear hb2;go_wp2;go_ret;exact⟨rfl,hB2⟩
def Kb(gs:List PNode)(s:PP)(k:Nat)(it v:Int):PP :=
 if(nxP gs k).length=0 then{ s with em:=s.em++[(it,(k:Int),v)] }else{ s with bx:=Jk (it,v,0) s.bx (nxP gs k) }
theorem lead_any(lo:Nat)(W:World)(p bb gb goff gc:Nat)(ts:List LNode)(sv:Value)(xs:List Value)(ev fv uv:Value)(s:PP)(k:Nat)(it v:Int)(h:Flow lo W p bb (.slice (some ⟨gb,goff,none⟩) ts.length gc) sv xs ev fv uv s)(hn:s.bx.length=ts.length)(hk:k<ts.length)(hz:DIn Ja lo W (some ⟨gb,goff,none⟩) ts)(hE:EdgesIn (ts.map Zz))(hem:s.em.length≤1000000)(ht:Zs s.bx+10≤100000) :
  Calls prog 241 #[.pointer (some ⟨p,0,none⟩),.int .i64 (k:Int),.int .i64 it,.int .i64 v] W fun e W'=>(∃u,e=.returned u)∧FStep lo p (.slice (some ⟨gb,goff,none⟩) ts.length gc) sv (FO p bb xs ev fv uv) W W' (Kb (ts.map Zz) s k it v):=by
 obtain⟨b,off,e,hb,hc⟩:=Qw hz.1 hk;obtain⟨rfl,rfl⟩:gb=b∧goff=off:=by simp at e;exact e
 obtain⟨c0,c1,c2,c3,c4,c5⟩:=hc k hk;have hin:=hz.2 k hk;have hev:nxP (ts.map Zz) k=(el ts k).2.2.2.2.2.2.2:=by rw[nxP,Jz hk];rfl
 have hrg:=hE.rng k (by rw[List.length_map];exact hk);have hfew:=hE.few k (by rw[List.length_map];exact hk);rw[Kb];rw[hev]at hrg hfew ⊢
 by_cases h0:(el ts k).2.2.2.2.2.2.2.length=0
 ·rw[if_pos h0];rw[h0]at c5;exact leadEnd_any lo W p bb gb goff ts.length gc sv xs ev fv uv s k it v _ _ _ _ _ _ _ h hk hb c0 c1 c2 c3 c4 c5 hem
 ·rw[if_neg h0];exact leadOn_any lo W p bb gb goff ts.length gc sv xs ev fv uv s k it v _ _ _ _ _ _ _ _ h hk hb c0 c1 c2 c3 c4 c5 hin h0 (fun x hx=>by obtain⟨j,hj,e⟩:=hrg x hx;rw[List.length_map]at hj;exact⟨j,by omega,e⟩) (by omega)
theorem Mh(gs:List PNode)(s:PP)(k:Nat)(it v:Int):(Kb gs s k it v).bx.length=s.bx.length:=by
 unfold Kb;split
 ·rfl
 ·exact Yq _ _ _
theorem leadR_tot{gs:List PNode}{s:PP}{k:Nat}(it v:Int)(hk:k<gs.length)(hE:EdgesIn gs)(hn:s.bx.length=gs.length):Zs (Kb gs s k it v).bx≤Zs s.bx+10:=by
 unfold Kb;split
 ·exact Nat.le_add_right _ _
 ·have h1:=Gr (it,v,0) (nxP gs k) s.bx (fun x hx=>by obtain⟨j,hj,e⟩:=hE.rng k hk x hx;exact⟨j,by omega,e⟩);have h2:=hE.few k hk
  show Zs (Jk (it,v,0) s.bx (nxP gs k))≤_
  omega
theorem leadR_em(gs:List PNode)(s:PP)(k:Nat)(it v:Int):(Kb gs s k it v).em.length≤s.em.length+1:=by
 unfold Kb;split
 ·simp
 ·exact Nat.le_add_right _ _
def Zu(gs:List PNode)(k:Nat)(it:Int):List Int→PP→PP
 | [],s=>s
 |v::r,s=>Zu gs k it r (Kb gs s k it v)
theorem Ga(gs:List PNode)(k:Nat)(it:Int):∀(l:List Int)(s:PP)(v:Int),Zu gs k it (l++[v]) s=Kb gs (Zu gs k it l s) k it v
 | [],_,_=>rfl
 |y::r,s,v=>by rw[List.cons_append,Zu,Zu,Ga gs k it r]
theorem Wx(gs:List PNode)(k:Nat)(it:Int):∀(l:List Int)(s:PP),(Zu gs k it l s).bx.length=s.bx.length
 | [],_=>rfl
 |y::r,s=>by rw[Zu,Wx gs k it r,Mh]
theorem Ys{gs:List PNode}{k:Nat}(it:Int)(hk:k<gs.length)(hE:EdgesIn gs):∀(l:List Int)(s:PP),s.bx.length=gs.length→Zs (Zu gs k it l s).bx≤Zs s.bx+10*l.length
 | [],_,_=>Nat.le_refl _
 |y::r,s,hn=>by
  have h1:=Ys it hk hE r (Kb gs s k it y) (by rw[Mh];exact hn);have h2:=leadR_tot it y hk hE hn;rw[Zu,List.length_cons];omega
theorem Nj(gs:List PNode)(k:Nat)(it:Int):∀(l:List Int)(s:PP),(Zu gs k it l s).em.length≤s.em.length+l.length
 | [],_=>Nat.le_refl _
 |y::r,s=>by
  have h1:=Nj gs k it r (Kb gs s k it y);have h2:=leadR_em gs s k it y;rw[Zu,List.length_cons];omega
def Ky(gs:List PNode)(k:Nat)(v:Int):List Int×Bool×Bool:=Lb (el gs k).2.1 (el gs k).2.2.1 (el gs k).2.2.2.1 v
def Qk(gs:List PNode)(s:PP)(node:Int):Int×PP :=
 if 0≤node∧node<s.bx.length then
  match el s.bx node.toNat with
  | []=>(5,s)
  |t::r =>
   if(Ky gs node.toNat t.2.1).2.1=true then(0,Kw s node.toNat t.1 t.2.1 t.2.2 r)
   else if blkP gs s.bx node.toNat ((Ky gs node.toNat t.2.1).1.length:Int)=true then(6,s)
   else(0,Zu gs node.toNat t.1 (Ky gs node.toNat t.2.1).1 { s with bx:=s.bx.set node.toNat r })
 else(2,s)
def Qp(gs:List PNode)(src:List Int)(s:PP)(node v:Int):Int×PP :=
 if Wr src node=true∧Ju v=true then
  if s.cl=true then(3,s)
  else if Wa gs node.toNat-((el s.bx node.toNat).length:Int)<1 then(4,s)
  else(0,{ s with bx:=s.bx.set node.toNat (el s.bx node.toNat++[(s.it,v,0)]),it:=s.it+1 })
 else(2,s)
def doR(gs:List PNode)(src:List Int)(s:PP)(m1 m2 m3:Int):Int×PP :=
 if m1=1 then Qp gs src s m2 m3 else if m1=2 then Qk gs s m2 else if m1=3 then Jn s m2 else if m1=4 then Xn s m3 else if m1=5 then Kr s else if m1=6 then Kz s else(1,s)
theorem Flow.old{lo:Nat}{W:World}{p bb:Nat}{gv sv:Value}{xs:List Value}{ev fv uv:Value}{s:PP}(h:Flow lo W p bb gv sv xs ev fv uv s){b:Nat}(hb:FO p bb xs ev fv uv b):b<W.1.size:=by
 rcases hb with rfl|rfl|⟨j,hj,hb⟩|hb
 ·exact h.box.size
 ·exact h.hnd.size
 ·exact(Zj (h.hnd.row j (by rw[←h.hnd.len];exact hj)) hb).2
 ·exact(h.apart hb).1
theorem Flow.far{lo:Nat}{W:World}{p bb:Nat}{gv sv:Value}{xs:List Value}{ev fv uv:Value}{s:PP}(h:Flow lo W p bb gv sv xs ev fv uv s){b:Nat}(hb:W.1.size≤b):¬FO p bb xs ev fv uv b:=fun hO=>by have:=h.old hO;omega
def TrB(bx:List (List (Int×Int×Int))):Prop:=∀k t,t∈el bx k→0≤t.2.2∧t.2.2≤3
theorem TrB.set{bx:List (List (Int×Int×Int))}(h:TrB bx)(k:Nat){x:List (Int×Int×Int)}(hx:∀t∈x,0≤t.2.2∧t.2.2≤3):TrB (bx.set k x):=fun j t ht=>by
 by_cases e:j=k
 ·subst e
  by_cases hj:j<bx.length
  ·rw[Zh hj]at ht;exact hx t ht
  ·rw[List.set_eq_of_length_le (by omega)]at ht;exact h j t ht
 ·rw[Zm e]at ht;exact h j t ht
theorem TrB.put{bx:List (List (Int×Int×Int))}(h:TrB bx)(k:Nat)(a b:Int):TrB (bx.set k (el bx k++[(a,b,0)])):=h.set k fun t ht=>by
 rcases List.mem_append.1 ht with h1|h1
 ·exact h k t h1
 ·rw[List.mem_singleton.1 h1];exact⟨by show(0:Int)≤0;omega,by show(0:Int)≤3;omega⟩
theorem TrB.puts(a b:Int):∀(l:List Int){bx:List (List (Int×Int×Int))},TrB bx→TrB (Jk (a,b,0) bx l)
 | [],_,h=>h
 |x::r,_,h=>TrB.puts a b r (h.put x.toNat a b)
theorem TrB.clr{bx:List (List (Int×Int×Int))}:TrB (clr bx bx.length):=fun j t ht=>by
 have e:el (Go.Proofs.YtdacedbfnlkghaaGreatDoor.clr bx bx.length) j=[]:=by
  simp only[Go.Proofs.YtdacedbfnlkghaaGreatDoor.clr,el,List.drop_length,List.append_nil]
  by_cases hj:j<bx.length
  ·simp[hj]
  ·simp[hj];rfl
 rw[e]at ht;cases ht
structure BndP(N n:Nat)(s:PP):Prop where
 len:s.bx.length=N
 tot:Zs s.bx+s.fa.length≤30*n
 em:s.em.length≤3*n
 fu:s.fu.length≤5
 ti0:0≤s.ti
 ti1:s.ti≤1000000
 it0:0≤s.it
 it1:s.it≤(n:Int)
 tr:TrB s.bx
theorem BndP.more{N n m:Nat}{s:PP}(h:BndP N n s)(hm:n≤m):BndP N m s :=
 ⟨h.len,by have:=h.tot;omega,by have:=h.em;omega,h.fu,h.ti0,h.ti1,h.it0,by have:=h.it1;omega,h.tr⟩
theorem BndP.abort{N n:Nat}{s:PP}(h:BndP N n s):BndP N n (Wh s):=by
 have ht:=(Hl s.bx s.bx.length).resolve_right (by omega);refine⟨?_,?_,h.em,h.fu,h.ti0,h.ti1,h.it0,h.it1,TrB.clr⟩
 ·show(clr s.bx s.bx.length).length=N
  rw[Dz (Nat.le_refl _)];exact h.len
 ·show Zs (clr s.bx s.bx.length)+(s.fa++Jc s.bx s.bx.length).length≤_
  have:=h.tot;rw[List.length_append];omega
theorem BndP.failT{N n:Nat}{s:PP}(h:BndP N n s):BndP N n (failT s):=by
 unfold Go.Proofs.YtdacedbfnlkghaaGreatDoor.failT
 split
 ·have a:=h.abort;exact⟨a.len,a.tot,a.em,Nat.zero_le _,a.ti0,a.ti1,a.it0,a.it1,a.tr⟩
 ·rename_i hl;exact⟨h.len,h.tot,h.em,by dsimp only;omega,h.ti0,h.ti1,h.it0,h.it1,h.tr⟩
theorem BndP.fail{N n:Nat}{s:PP}(h:BndP N n s){k:Nat}{t1 t2 t3:Int}{r:List (Int×Int×Int)}(hk:k<s.bx.length)(hr:el s.bx k=(t1,t2,t3)::r):BndP N n (Kw s k t1 t2 t3 r):=by
 unfold Kw
 refine BndP.failT ?_;have ht3:=h.tr k (t1,t2,t3) (by rw[hr];simp);have hrr:∀t∈r,0≤t.2.2∧t.2.2≤3:=fun t ht=>h.tr k t (by rw[hr];exact List.mem_cons_of_mem _ ht)
 have htot:=h.tot
 split
 ·have hs:=Jb (ls:=s.bx) (k:=k) r hk;rw[hr,List.length_cons]at hs;refine⟨(List.length_set ..).trans h.len,?_,h.em,h.fu,h.ti0,h.ti1,h.it0,h.it1,h.tr.set k hrr⟩
  show Zs (s.bx.set k r)+(s.fa++[_]).length≤_
  rw[List.length_append,List.length_singleton];omega
 ·rename_i h3;have hs:=Jb (ls:=s.bx) (k:=k) ((t1,t2,t3+1)::r) hk;rw[hr,List.length_cons,List.length_cons]at hs;refine⟨(List.length_set ..).trans h.len,?_,h.em,h.fu,h.ti0,h.ti1,h.it0,h.it1,h.tr.set k fun t ht=>?_⟩
  ·show Zs (s.bx.set k ((t1,t2,t3+1)::r))+s.fa.length≤_
   omega
  ·rcases List.mem_cons.1 ht with rfl|h1
   ·dsimp only at ht3 ⊢;omega
   ·exact hrr t h1
theorem leadR_same(gs:List PNode)(s:PP)(k:Nat)(it v:Int):(Kb gs s k it v).fa=s.fa∧(Kb gs s k it v).fu=s.fu∧(Kb gs s k it v).ti=s.ti∧(Kb gs s k it v).it=s.it∧(Kb gs s k it v).cl=s.cl:=by
 unfold Kb;split <;> exact⟨rfl,rfl,rfl,rfl,rfl⟩
theorem leadR_tr(gs:List PNode){s:PP}(k:Nat)(it v:Int)(h:TrB s.bx):TrB (Kb gs s k it v).bx:=by
 unfold Kb;split
 ·exact h
 ·exact TrB.puts it v _ h
theorem Wd(gs:List PNode)(k:Nat)(it:Int):∀(l:List Int)(s:PP),(Zu gs k it l s).fa=s.fa∧(Zu gs k it l s).fu=s.fu∧(Zu gs k it l s).ti=s.ti∧(Zu gs k it l s).it=s.it∧(Zu gs k it l s).cl=s.cl
 | [],_=>⟨rfl,rfl,rfl,rfl,rfl⟩
 |y::r,s=>by
  obtain⟨a1,a2,a3,a4,a5⟩:=Wd gs k it r (Kb gs s k it y);obtain⟨b1,b2,b3,b4,b5⟩:=leadR_same gs s k it y;rw[Zu];exact⟨a1.trans b1,a2.trans b2,a3.trans b3,a4.trans b4,a5.trans b5⟩
theorem Cz(gs:List PNode)(k:Nat)(it:Int):∀(l:List Int){s:PP},TrB s.bx→TrB (Zu gs k it l s).bx
 | [],_,h=>h
 |y::r,_,h=>Cz gs k it r (leadR_tr gs k it y h)
theorem BndP.step{gs:List PNode}{n:Nat}{s:PP}(h:BndP gs.length n s)(hE:EdgesIn gs)(m:Int):BndP gs.length (n+1) (Qk gs s m).2:=by
 unfold Qk
 split
 ·rename_i hin;have hk:m.toNat<s.bx.length:=by omega
  split
  ·exact h.more (by omega)
  ·rename_i t r hr;obtain⟨t1,t2,t3⟩:=t
   split
   ·exact(h.fail hk hr).more (by omega)
   ·split
    ·exact h.more (by omega)
    ·have hs:=Jb (ls:=s.bx) (k:=m.toNat) r hk;rw[hr,List.length_cons]at hs;have hl:(Ky gs m.toNat t2).1.length≤3:=Ru _ _ _ _;have hkg:m.toNat<gs.length:=by rw[←h.len];exact hk
     have htot:=h.tot;have hem:=h.em;have hrr:∀t∈r,0≤t.2.2∧t.2.2≤3:=fun t ht=>h.tr m.toNat t (by rw[hr];exact List.mem_cons_of_mem _ ht)
     obtain⟨a1,a2,a3,a4,_⟩:=Wd gs m.toNat t1 (Ky gs m.toNat t2).1 { s with bx:=s.bx.set m.toNat r };have b1:=Ys t1 hkg hE (Ky gs m.toNat t2).1 { s with bx:=s.bx.set m.toNat r } (by rw[←h.len];exact List.length_set ..);have b2:=Nj gs m.toNat t1 (Ky gs m.toNat t2).1 { s with bx:=s.bx.set m.toNat r };have b3:=Wx gs m.toNat t1 (Ky gs m.toNat t2).1 { s with bx:=s.bx.set m.toNat r };have hfu:=h.fu;have h0:=h.ti0;have h1:=h.ti1;have h2:=h.it0;have h3:=h.it1;dsimp only at a1 a2 a3 a4 b1 b2 b3 ⊢;exact⟨b3.trans ((List.length_set ..).trans h.len),by rw[a1];omega,by omega,by rw[a2];exact hfu,by rw[a3];exact h0,by rw[a3];exact h1,by rw[a4];exact h2,by rw[a4];omega,Cz gs _ _ _ (h.tr.set _ hrr)⟩
 ·exact h.more (by omega)
theorem BndP.fault{N n:Nat}{s:PP}(h:BndP N n s)(m:Int):BndP N n (Jn s m).2:=by
 unfold Jn
 split
 ·rename_i hin
  split
  ·exact h
  ·rename_i t r hr;exact h.fail (by omega) hr
 ·exact h
theorem BndP.offer{gs:List PNode}{src:List Int}{N n:Nat}{s:PP}(h:BndP N n s)(m v:Int):BndP N (n+1) (Qp gs src s m v).2:=by
 unfold Qp
 split
 ·split
  ·exact h.more (by omega)
  ·split
   ·exact h.more (by omega)
   ·have htot:=h.tot;have hi:=h.it1;have h0:=h.it0;refine⟨(List.length_set ..).trans h.len,?_,by have:=h.em;dsimp only;omega,h.fu,h.ti0,h.ti1,by dsimp only;omega,by dsimp only;omega,h.tr.put _ _ _⟩
    show Zs (s.bx.set m.toNat (el s.bx m.toNat++[(s.it,v,0)]))+s.fa.length≤_
    by_cases hk:m.toNat<s.bx.length
    ·have hs:=Jb (ls:=s.bx) (k:=m.toNat) (el s.bx m.toNat++[(s.it,v,0)]) hk;rw[List.length_append,List.length_singleton]at hs
     omega
    ·rw[List.set_eq_of_length_le (by omega)];omega
 ·exact h.more (by omega)
theorem BndP.move{gs:List PNode}{src:List Int}{n:Nat}{s:PP}(h:BndP gs.length n s)(hE:EdgesIn gs)(m1 m2 m3:Int):BndP gs.length (n+1) (doR gs src s m1 m2 m3).2:=by
 unfold doR
 split
 ·exact h.offer m2 m3
 ·split
  ·exact h.step hE m2
  ·split
   ·exact(h.fault m2).more (by omega)
   ·split
    ·unfold Xn
     split
     ·exact h.more (by omega)
     ·split
      ·exact h.more (by omega)
      ·have a:=h.more (m:=n+1) (by omega);have:=h.ti0;exact⟨a.len,a.tot,a.em,a.fu,by dsimp only;omega,by dsimp only;omega,a.it0,a.it1,a.tr⟩
    ·split
     ·unfold Kr
      split
      ·exact h.more (by omega)
      ·have a:=h.more (m:=n+1) (by omega);exact⟨a.len,a.tot,a.em,a.fu,a.ti0,a.ti1,a.it0,a.it1,a.tr⟩
     ·split
      ·unfold Kz
       split
       ·exact h.more (by omega)
       ·exact h.abort.more (by omega)
      ·exact h.more (by omega)
section
open Go Go.RowKit
def NoOut(Q:Exit→Act→World→Prop):Exit→Act→World→Prop
 | .outgrown,_,_=>False
 |e,a,w=>Q e a w
theorem NoOut.normal{Q:Exit→Act→World→Prop}{a:Act}{w:World}(h:Q .normal a w):NoOut Q .normal a w:=h
theorem Fo{Q:Exit→Act→World→Prop}:¬LetsOut (NoOut Q):=fun⟨_,_,h⟩=>h
theorem rowsIn_wide{n:Nat}{P:Program}{row:String}{args:Array Value}{w:World}{R:Value→World→Prop}(h:Rows P row args w R):RowsIn Fence.wide n P row args w R :=
 fun c cs _=>let⟨v,w',r,s⟩:=h c cs;⟨v,w',r,stepsIn_wide.2 s⟩
theorem Le{n:Nat}{P:Program}{ops:Array Oper}{Q:Exit→Act→World→Prop}(l:Nat)(hnd:∀(i:Nat)(o:Oper)(c:_),ops[i]? = some o→o.op≠.defer c){i:Nat}{K:Act→World→Prop}{a:Act}{w:World}(h:wpOp P ops (NoOut Q) i K a w):wpOpIn (Fence.wide.inRound l) n P ops Q i K a w:=by
 unfold wpOp at h
 unfold wpOpIn
 cases ho:ops[i]? with
 |none=>rw[ho]at h;exact h
 |some o =>
  rw[ho]at h;dsimp only at h ⊢
  by_cases hw:Region.wanted o (yielded ops a.tmps)=true
  ·rw[if_pos hw]at h ⊢
   rcases h with h|⟨_,h⟩
   ·unfold Oper.wpIn
    rw[Oper.semAt_eq _ _ _ (fun c=>hnd i o c ho)];refine⟨fun _ _=>trivial,?_⟩
    unfold Oper.wp at h
    generalize(execOp a.eval o).run P w=r at h ⊢
    cases r with
    |ok x w' =>
     cases x <;> simp only[Oper.upon,Oper.uponIn]at h ⊢
     case enter f args =>
      refine⟨fun hh=>by simp[Fence.wide,Fence.inRound]at hh,CallsIn.inRound l (callsIn_wide.2 (h.mono fun e w'' he=>?_))⟩
      cases e with
      |returned v=>exact he
      |panicked c=>exact he
      |outgrown=>exact(Fo he).elim
     all_goals first|exact h|exact⟨fun hh=>by simp[Fence.wide,Fence.inRound]at hh,(rowsIn_wide (n:=n-1) h:RowsIn Fence.wide (n-1) P _ _ _ _)⟩
    |halt x w'=>cases x <;> simp only[Oper.upon,Oper.uponIn]at h ⊢ <;> exact h
   ·exact(Fo h).elim
  ·rw[if_neg hw]at h ⊢;exact⟨fun _ _=>trivial,h⟩
theorem Um{n:Nat}{P:Program}{md:Region.Mode}{ops:Array Oper}{Q:Exit→Act→World→Prop}{S:World→Prop}(l:Nat)(hnd:∀(i:Nat)(o:Oper)(c:_),ops[i]? = some o→o.op≠.defer c) :
  ∀(fuel:Nat)(listed:Array Bool)(a:Act)(w:World),wpAnyH P md ops (NoOut Q) S fuel listed a w→wpAnyIn (Fence.wide.inRound l) n P md ops Q fuel listed a w
 |0,_,_,_,h=>⟨h.1,h.2⟩
 |fuel+1,_,_,_,h=>⟨h.1,fun i hi=>Le l hnd (wpOp_mono (fun a' w' h'=>Um l hnd fuel _ a' w' h'.2) (h.2 i hi))⟩
def noDefer(ops:Array Oper):Bool:=ops.toList.all fun o=>match o.op with| .defer _=>false|_=>true
theorem noDefer_spec{ops:Array Oper}(h:noDefer ops=true):∀(i:Nat)(o:Oper)(c:_),ops[i]? = some o→o.op≠.defer c:=fun i o c hi e=>by
 have hm:o∈ops.toList:=by rw[Array.mem_toList_iff];exact Array.mem_of_getElem? hi
 have:=List.all_eq_true.1 h o hm;rw[e]at this;exact absurd this (by simp)
theorem Ul{n:Nat}{P:Program}{id:Nat}{ops:Array Oper}{Q:Exit→Act→World→Prop}{S:World→Prop}{l:Nat}{a:Act}{w:World}(hm:P.follows .mixedOrders=true)(hnd:noDefer ops=true)(hS:S w.drew)
  (h:S w.drew→wpAnyH P .any ops (NoOut Q) S ops.size (Array.replicate ops.size false) a w.drew):(Code.region id ops true).wpIn (Fence.wide.inRound l) n P Q a w :=
 wpIn_region_any hm (Um l (noDefer_spec hnd) _ _ _ _ (h hS))
end
end Go.Proofs.YtdacedbfnlkghaaGreatDoor