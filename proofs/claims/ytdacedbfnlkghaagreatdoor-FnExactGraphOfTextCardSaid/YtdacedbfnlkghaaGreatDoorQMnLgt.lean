/- Marks in rows of nodes. Rows of nodes marked and found held, to the number. The law of GraphOfText: it returns true. No conditions but those written. -/
import Derived.Test.YtdacedbfnlkghaaGreatDoorQSlpRab
namespace Go.Proofs.YtdacedbfnlkghaaGreatDoor
set_option maxHeartbeats 8000000
set_option maxRecDepth 100000
open Go.RowKit Go.Proofs.Tryz
structure MkN(lo hi:Nat)(W:World)(g:Nat)(us:List LNode):Prop where
 low:lo≤g
 top:g<hi
 lt:g<W.1.size
 cel:∀i,i<us.length→∀q,q<5→∃v,W.cell? ⟨g,i*6+q,none⟩=some v
 nxt:∀i,i<us.length→W.cell? ⟨g,i*6+5,none⟩=some (.slice (el us i).2.2.2.2.2.1 (el us i).2.2.2.2.2.2.2.length (el us i).2.2.2.2.2.2.1)
 fro:∀q,W.frozen? ⟨g,q,none⟩=false
 row:∀i,i<us.length→∃ys:List Int,ys.length=(el us i).2.2.2.2.2.2.2.length∧kI.Fresh lo hi W (el us i).2.2.2.2.2.1 (el us i).2.2.2.2.2.2.1 ys
 off:∀i,i<us.length→¬Pe (el us i).2.2.2.2.2.1 (el us i).2.2.2.2.2.2.2 g
 par:Parted Qn us
theorem Gd{α β:Type}{o:Option Addr}{xs:List α}{ys:List β}(h:xs.length=ys.length){b:Nat}:Pe o xs b↔Pe o ys b:=by unfold Pe;rw[h]
theorem MkN.of{lo hi:Nat}{W:World}{g c:Nat}{us:List LNode}(h:DFr Qn lo hi W (some ⟨g,0,none⟩) c us)(h0:0<us.length):MkN lo hi W g us:=by
 have h1:Gq.Fresh lo hi W (some ⟨g,0,none⟩) c us:=h.1;obtain⟨g2,e2,hg1,hg2,hg3,ho⟩:=h1.at h0
 simp at e2;subst e2
 have hcs:∀i,i<us.length→W.cell? ⟨g,i*6,none⟩=some (.string (el us i).1)∧W.cell? ⟨g,i*6+1,none⟩=some (.int .i64 (el us i).2.1)∧W.cell? ⟨g,i*6+2,none⟩=some (.int .i64 (el us i).2.2.1)∧W.cell? ⟨g,i*6+3,none⟩=some (.int .i64 (el us i).2.2.2.1)∧W.cell? ⟨g,i*6+4,none⟩=some (.int .i64 (el us i).2.2.2.2.1)∧W.cell? ⟨g,i*6+5,none⟩=some (.slice (el us i).2.2.2.2.2.1 (el us i).2.2.2.2.2.2.2.length (el us i).2.2.2.2.2.2.1):=fun i hi'=>by
  obtain⟨b0,off,eb,_,hc⟩:=Qz h1.in hi';obtain⟨rfl,rfl⟩:b0=g∧off=0:=by simp at eb;exact⟨eb.1.symm,eb.2.symm⟩
  have hc':=hc i hi';simp only[Nat.zero_add]at hc';exact hc'
 refine⟨hg1,hg2,hg3,fun i hi' q hq=>?_,fun i hi'=>(hcs i hi').2.2.2.2.2,fun q=>ho.frozenAt q,fun i hi'=>⟨_,rfl,h.2.1 i hi'⟩,fun i hi' hr=>h.head Zf hi' hr ⟨h0,rfl⟩,h.2.2⟩;have h6:=hcs i hi'
 rcases(show q=0∨q=1∨q=2∨q=3∨q=4 from by omega)with rfl|rfl|rfl|rfl|rfl
 ·exact⟨_,h6.1⟩
 ·exact⟨_,h6.2.1⟩
 ·exact⟨_,h6.2.2.1⟩
 ·exact⟨_,h6.2.2.2.1⟩
 ·exact⟨_,h6.2.2.2.2.1⟩
theorem MkN.later{lo hi:Nat}{W W':World}{g:Nat}{us:List LNode}(h:MkN lo hi W g us)(hb:Below W.1.size W W'):MkN lo hi W' g us :=
 ⟨h.low,h.top,Nat.lt_of_lt_of_le h.lt hb.size,fun i hi' q hq=>by obtain⟨v,hv⟩:=h.cel i hi' q hq;exact⟨v,(hb.cell (p:=⟨g,i*6+q,none⟩) h.lt).trans hv⟩,fun i hi'=>(hb.cell (p:=⟨g,i*6+5,none⟩) h.lt).trans (h.nxt i hi'),fun q=>(hb.frozen (p:=⟨g,q,none⟩) h.lt).trans (h.fro q),fun i hi'=>by obtain⟨ys,hy,hF⟩:=h.row i hi';exact⟨ys,hy,hF.later hb⟩,h.off,h.par⟩
theorem MkN.set{lo hi:Nat}{W:World}{g:Nat}{us:List LNode}(h:MkN lo hi W g us){i q:Nat}(hi':i<us.length)(hq:q<5)(u:Value):MkN lo hi (W.setCell ⟨g,i*6+q,none⟩ u) g us:=by
 obtain⟨v0,hv0⟩:=h.cel i hi' q hq;have far:∀p,p≠i*6+q→(W.setCell ⟨g,i*6+q,none⟩ u).cell? ⟨g,p,none⟩=W.cell? ⟨g,p,none⟩:=fun p hp=>by simp[go_sem]
 refine⟨h.low,h.top,by simpa[World.setCell]using h.lt,fun j hj p hp=>?_,fun j hj=>(far _ (by omega)).trans (h.nxt j hj),fun p=>by simpa[go_sem]using h.fro p,fun j hj=>?_,h.off,h.par⟩
 ·by_cases e:j*6+p=i*6+q
  ·rw[e];exact⟨u,by simp[go_sem,hv0]⟩
  ·obtain⟨v,hv⟩:=h.cel j hj p hp;exact⟨v,(far _ e).trans hv⟩
 ·obtain⟨ys,hy,hF⟩:=h.row j hj;exact⟨ys,hy,hF.keepB fun b hb=>Below.heap_setCell _ _ _ _ (fun e=>h.off j hj (by simp only at e;rw[←e];exact(Gd hy).1 hb))⟩
theorem Between.set{lo hi:Nat}(W:World){a:Addr}(h1:lo≤a.block)(h2:a.block<hi)(u:Value):Between lo hi W (W.setCell a u) :=
 ⟨rfl,rfl,rfl,by simp[World.setCell],fun k _ hr=>Below.heap_setCell W a u k (by omega)⟩
theorem MkN.turn{lo hi:Nat}{W W':World}{g:Nat}{us:List LNode}(h:MkN lo hi W g us){i:Nat}(hi':i<us.length){ys:List Int}(hy:ys.length=(el us i).2.2.2.2.2.2.2.length)(hF:kI.Fresh lo hi W' (el us i).2.2.2.2.2.1 (el us i).2.2.2.2.2.2.1 ys)(hO:OnlyAt (eff (el us i).2.2.2.2.2.1 (el us i).2.2.2.2.2.2.2.length) W W'):MkN lo hi W' g us:=by
 have hg:W'.heap[g]? = W.heap[g]? := Pi hO (h.off i hi');refine⟨h.low,h.top,by rw[hO.size];exact h.lt,fun j hj q hq=>?_,fun j hj=>(World.cell?_of_block (a:=⟨g,j*6+5,none⟩) hg).trans (h.nxt j hj),fun q=>(World.frozen?_of_block (a:=⟨g,q,none⟩) hg).trans (h.fro q),fun j hj=>?_,h.off,h.par⟩
 ·obtain⟨v,hv⟩:=h.cel j hj q hq;exact⟨v,(World.cell?_of_block (a:=⟨g,j*6+q,none⟩) hg).trans hv⟩
 ·by_cases e:j=i
  ·subst e;exact⟨ys,hy,hF⟩
  ·obtain⟨zs,hz,hFz⟩:=h.row j hj;refine⟨zs,hz,hFz.keepB fun b hb=>Pi hO fun hb2=>?_⟩;have hb1:Qn.own (el us j) b:=(Gd hz).1 hb
   rcases Nat.lt_or_gt_of_ne e with hl|hl
   ·exact h.par j i hl hi' b hb1 hb2
   ·exact h.par i j hl hj b hb2 hb1
section
open Go.RowKit
def mtx(k:Int):ByteArray:=tx (109::Lib.decDigits k.toNat)
theorem dd_next{k:Int}(h:0<k)(s:ByteArray):tx (Lib.decDigits k.toNat)++s=if 0<k / 10 then tx (Lib.decDigits (k / 10).toNat)++(tx [UInt8.ofNat (48+k % 10).toNat]++s)else tx [UInt8.ofNat (48+k % 10).toNat]++s:=by
 have e1:(48+k % 10).toNat=48+k.toNat % 10:=by omega
 by_cases h10:k<10
 ·rw[if_neg (by omega),Lib.decDigits_one (by omega),e1,Nat.mod_eq_of_lt (by omega)]
 ·have e2:(k / 10).toNat=k.toNat / 10:=by omega
  rw[if_pos (by omega),Lib.decDigits,dif_neg (by omega),←Cj,ByteArray.append_assoc,e1,e2]
theorem markTextX(k0:Int)(w:World)(hk0:0<k0)(hk1:k0≤1000000000) :
  Calls prog 46 #[.int .i64 k0] w fun e w'=>e=.returned (.string (mtx k0))∧Below w.1.size w w':=by
 have h0':decide (k0≤0)=false:=by simp;omega
 go_enter func46,ntmps46;go_wp2
 go_loopw [0,3] (fun v u wr=>∃(k:Int)(s:ByteArray),v=.int .i64 k∧u=.string s∧0≤k∧k≤1000000000∧s.size+k.toNat≤1000000000∧Zi (tx (Lib.decDigits k0.toNat)=if 0<k then tx (Lib.decDigits k.toNat)++s else s)∧Below w.1.size w wr) (fun v _ _=>(intOf v).toNat)
 case atStart=>exact⟨k0,⟨#[]⟩,rfl,rfl,by omega,hk1,by have:(⟨#[]⟩:ByteArray).size=0:=rfl;omega,by rw[Zi,if_pos hk0];exact(ba_nil _).symm,Below.refl _ _⟩
 case round =>
  obtain⟨k,s,rfl,rfl,hk,hkk,hs,hE,hB⟩:=hrel
  by_cases hp:0<k
  ·have hp':decide (0<k)=true:=by simpa using hp
   have hcv:=conv_new wr (48+k % 10);have hs1:(tx [UInt8.ofNat (48+k % 10).toNat]).size=1:=rfl;have hE2:=hE.o;rw[if_pos hp,dd_next hp]at hE2;have HE2:=Zd hE2
   generalize tx [UInt8.ofNat (48+k % 10).toNat]=s1 at hcv hs1 HE2
   have hB2:Below w.1.size w (wr.alloc (.cells #[.int .u8 (48+k % 10)] 5)):=Zx hB _;have hq0:0≤k / 10:=by omega
   have hq1:k / 10<k:=by omega
   clear hE2 hE;go_wp2;go_roundw
   case rel=>exact⟨k / 10,_,rfl,rfl,hq0,by omega,by rw[ByteArray.size_append];omega,HE2,hB2⟩
   case measure=>simp[intOf];omega
  ·obtain rfl:k=0:=by omega
   have hE2:=hE.o;rw[if_neg hp]at hE2;have HE2:=Zd hE2;clear hp hE2 hE;go_wp2;go_ret;refine⟨?_,hB⟩;rw[←HE2.o,mtx,show(109::Lib.decDigits k0.toNat)=[109]++Lib.decDigits k0.toNat from rfl,←Cj];rfl
def kN(us:List LNode)(j:Nat):Int:=1+5*(j:Int)+(((us.take j).map fun a=>a.2.2.2.2.2.2.2.length).sum:Nat)
theorem kN_succ{us:List LNode}{j:Nat}(h:j<us.length):kN us (j+1)=kN us j+5+((el us j).2.2.2.2.2.2.2.length:Nat):=by
 unfold kN
 rw[Zy h]
 simp
 omega
theorem kN_rng{us:List LNode}(hF:FitR us):∀{j:Nat},j≤us.length→0<kN us j∧kN us j≤1+25*(j:Int)
 |0,_=>by simp[kN]
 |j+1,h=>by
  have ih:=kN_rng hF (j:=j) (by omega);have h2:=(hF.2 _ (Zh (show j<us.length by omega))).2;rw[kN_succ (by omega)]
  omega
structure MkD(lo hi:Nat)(W:World)(g:Nat)(us:List LNode)(i:Nat):Prop where
 cel:∀j,j<i→W.cell? ⟨g,j*6,none⟩=some (.string (mtx (kN us j)))∧W.cell? ⟨g,j*6+1,none⟩=some (.int .i64 (kN us j+1))∧W.cell? ⟨g,j*6+2,none⟩=some (.int .i64 (kN us j+1+1))∧W.cell? ⟨g,j*6+3,none⟩=some (.int .i64 (kN us j+1+1+1))∧W.cell? ⟨g,j*6+4,none⟩=some (.int .i64 (kN us j+1+1+1+1))
 row:∀j,j<i→kI.Fresh lo hi W (el us j).2.2.2.2.2.1 (el us j).2.2.2.2.2.2.1 (Fk (kN us j+1+1+1+1+1) (el us j).2.2.2.2.2.2.2.length)
section
variable {lo hi:Nat} {W W':World} {g:Nat} {us:List LNode} {i:Nat}
theorem MkD.zero(lo hi:Nat)(W:World)(g:Nat)(us:List LNode):MkD lo hi W g us 0:=⟨fun _ h=>absurd h (Nat.not_lt_zero _),fun _ h=>absurd h (Nat.not_lt_zero _)⟩
theorem MkD.later(h:MkD lo hi W g us i)(hN:MkN lo hi W g us)(_hi:i≤us.length)(hb:Below W.1.size W W'):MkD lo hi W' g us i :=
 ⟨fun j hj=>by
  obtain⟨a,b,c,d,e⟩:=h.cel j hj;exact⟨(hb.cell (p:=⟨g,j*6,none⟩) hN.lt).trans a,(hb.cell (p:=⟨g,j*6+1,none⟩) hN.lt).trans b,(hb.cell (p:=⟨g,j*6+2,none⟩) hN.lt).trans c,(hb.cell (p:=⟨g,j*6+3,none⟩) hN.lt).trans d,(hb.cell (p:=⟨g,j*6+4,none⟩) hN.lt).trans e⟩,fun j hj=>(h.row j hj).later hb⟩
theorem MkD.set(h:MkD lo hi W g us i)(hN:MkN lo hi W g us){p:Nat}(hp:i*6≤p∧i≤us.length)(u:Value):MkD lo hi (W.setCell ⟨g,p,none⟩ u) g us i:=by
 have far:∀q,q≠p→(W.setCell ⟨g,p,none⟩ u).cell? ⟨g,q,none⟩=W.cell? ⟨g,q,none⟩:=fun q hq=>by simp[go_sem]
 refine⟨fun j hj=>?_,fun j hj=>?_⟩
 ·obtain⟨a,b,c,d,e⟩:=h.cel j hj;exact⟨(far _ (by omega)).trans a,(far _ (by omega)).trans b,(far _ (by omega)).trans c,(far _ (by omega)).trans d,(far _ (by omega)).trans e⟩
 ·exact(h.row j hj).keepB fun b hb=>Below.heap_setCell _ _ _ _ (fun e=>hN.off j (by omega) (by simp only at e;rw[←e];exact(Gd (Vc _ _)).1 hb))
theorem MkD.turn(h:MkD lo hi W g us i)(hN:MkN lo hi W g us)(hi':i<us.length)(hO:OnlyAt (eff (el us i).2.2.2.2.2.1 (el us i).2.2.2.2.2.2.2.length) W W'):MkD lo hi W' g us i:=by
 have hg:W'.heap[g]? = W.heap[g]? := Pi hO (hN.off i hi');refine⟨fun j hj=>?_,fun j hj=>?_⟩
 ·obtain⟨a,b,c,d,e⟩:=h.cel j hj;exact⟨(World.cell?_of_block (a:=⟨g,j*6,none⟩) hg).trans a,(World.cell?_of_block (a:=⟨g,j*6+1,none⟩) hg).trans b,(World.cell?_of_block (a:=⟨g,j*6+2,none⟩) hg).trans c,(World.cell?_of_block (a:=⟨g,j*6+3,none⟩) hg).trans d,(World.cell?_of_block (a:=⟨g,j*6+4,none⟩) hg).trans e⟩
 ·refine(h.row j hj).keepB fun b hb=>Pi hO fun hb2=>?_
  have hb1:Qn.own (el us j) b:=(Gd (Vc _ _)).1 hb;exact hN.par j i hj hi' b hb1 hb2
theorem cells5{a b c d e:Option Value}{p0 p1 p2 p3 p4:Nat}(h:W.cell? ⟨g,p0,none⟩=a∧W.cell? ⟨g,p1,none⟩=b∧W.cell? ⟨g,p2,none⟩=c∧W.cell? ⟨g,p3,none⟩=d∧W.cell? ⟨g,p4,none⟩=e)(hg:W'.heap[g]? = W.heap[g]?):W'.cell? ⟨g,p0,none⟩=a∧W'.cell? ⟨g,p1,none⟩=b∧W'.cell? ⟨g,p2,none⟩=c∧W'.cell? ⟨g,p3,none⟩=d∧W'.cell? ⟨g,p4,none⟩=e :=
 ⟨(World.cell?_of_block (a:=⟨g,p0,none⟩) hg).trans h.1,(World.cell?_of_block (a:=⟨g,p1,none⟩) hg).trans h.2.1,(World.cell?_of_block (a:=⟨g,p2,none⟩) hg).trans h.2.2.1,(World.cell?_of_block (a:=⟨g,p3,none⟩) hg).trans h.2.2.2.1,(World.cell?_of_block (a:=⟨g,p4,none⟩) hg).trans h.2.2.2.2⟩
theorem MkD.next(h:MkD lo hi W g us i)(_hi:i<us.length){k:Int}{s:ByteArray}(hk:k=kN us i)(hs:s=mtx k)(hc:W.cell? ⟨g,i*6,none⟩=some (.string s)∧W.cell? ⟨g,i*6+1,none⟩=some (.int .i64 (k+1))∧W.cell? ⟨g,i*6+2,none⟩=some (.int .i64 (k+1+1))∧W.cell? ⟨g,i*6+3,none⟩=some (.int .i64 (k+1+1+1))∧W.cell? ⟨g,i*6+4,none⟩=some (.int .i64 (k+1+1+1+1)))
  (hr:kI.Fresh lo hi W (el us i).2.2.2.2.2.1 (el us i).2.2.2.2.2.2.1 (Fk (k+1+1+1+1+1) (el us i).2.2.2.2.2.2.2.length)):MkD lo hi W g us (i+1):=by
 subst hs;subst hk;refine⟨fun j hj=>?_,fun j hj=>?_⟩
 ·by_cases e:j=i
  ·subst e;exact hc
  ·exact h.cel j (by omega)
 ·by_cases e:j=i
  ·subst e;exact hr
  ·exact h.row j (by omega)
end
theorem markNodes_is(lo hi g c:Nat)(us:List LNode)(w:World)(hft:FitR us)(h0:0<us.length)(hF:DFr Qn lo hi w (some ⟨g,0,none⟩) c us) :
  Calls prog 19 #[.slice (some ⟨g,0,none⟩) us.length c,.int .i64 1] w fun e w'=>e=.returned (.int .i64 (kN us us.length))∧MkN lo hi w' g us∧MkD lo hi w' g us us.length∧Between lo hi w w':=by
 have hl:=hft.1;have HM:=Zd (MkN.of hF h0);clear hF;go_enter func19,ntmps19;go_wp2
 go_loopw [1,5] (fun v j wr=>∃(i:Nat)(k:Int),i≤us.length∧j=.int .i64 i∧v=.int .i64 k∧0<k∧k≤1+25*(i:Int)∧Zi (k=kN us i)∧Zi (MkN lo hi wr g us)∧Zi (MkD lo hi wr g us i)∧Zi (Between lo hi w wr)) (fun _ j _=>us.length-(intOf j).toNat)
 case atStart=>exact⟨0,1,Nat.zero_le _,rfl,rfl,by omega,by omega,rfl,HM,MkD.zero _ _ _ _ _,Between.refl _ _ _⟩
 case round =>
  clear HM;obtain⟨i,k,hi',rfl,rfl,hk,hkk,hK,hM,hD,hB⟩:=hrel
  by_cases hlt:i<us.length
  ·have hsz:=(hft.2 _ (Zh hlt)).2;have hks:=kN_succ hlt;have hii:(i:Int)<(us.length:Int):=by omega
   go_wp2_with fail;refine(markTextX k wr hk (by omega)).mono ?_;obtain⟨s,hs⟩:=nmd (mtx k);rw[←hs];have HS:=Zd hs;clear hs;rintro e w1 ⟨rfl,hb1⟩;have hD1:=Zd (hD.o.later hM.o hi' hb1);have hM1:=Zd (hM.o.later hb1);have hB1:=Zd (hB.o.trans (Between.of_below hb1));clear hb1 hM hB hD;obtain⟨v0,c0⟩:=hM1.o.cel i hlt 0 (by omega);obtain⟨v1,c1⟩:=hM1.o.cel i hlt 1 (by omega);obtain⟨v2,c2⟩:=hM1.o.cel i hlt 2 (by omega);obtain⟨v3,c3⟩:=hM1.o.cel i hlt 3 (by omega);obtain⟨v4,c4⟩:=hM1.o.cel i hlt 4 (by omega);have c5:=hM1.o.nxt i hlt;have f0:=hM1.o.fro (i*6);have f1:=hM1.o.fro (i*6+1);have f2:=hM1.o.fro (i*6+2);have f3:=hM1.o.fro (i*6+3);have f4:=hM1.o.fro (i*6+4);rw[Nat.add_zero]at c0;have hgs:=hM1.o.lt;have HM5:=Zd (((((hM1.o.set hlt (show 0<5 by omega) (.string s)).set hlt (show 1<5 by omega) (.int .i64 (k+1))).set hlt (show 2<5 by omega) (.int .i64 (k+1+1))).set hlt (show 3<5 by omega) (.int .i64 (k+1+1+1))).set hlt (show 4<5 by omega) (.int .i64 (k+1+1+1+1)));have hlo:=hM1.o.low;have hhi:=hM1.o.top;have HB5:=Zd (hB1.o.trans (((((Between.set w1 (a:=⟨g,i*6+0,none⟩) hlo hhi (.string s)).trans (Between.set _ (a:=⟨g,i*6+1,none⟩) hlo hhi (.int .i64 (k+1)))).trans (Between.set _ (a:=⟨g,i*6+2,none⟩) hlo hhi (.int .i64 (k+1+1)))).trans (Between.set _ (a:=⟨g,i*6+3,none⟩) hlo hhi (.int .i64 (k+1+1+1)))).trans (Between.set _ (a:=⟨g,i*6+4,none⟩) hlo hhi (.int .i64 (k+1+1+1+1)))));have HD5:=Zd (((((hD1.o.set hM1.o (p:=i*6+0) (by omega) (.string s)).set (hM1.o.set hlt (show 0<5 by omega) (.string s)) (p:=i*6+1) (by omega) (.int .i64 (k+1))).set ((hM1.o.set hlt (show 0<5 by omega) (.string s)).set hlt (show 1<5 by omega) (.int .i64 (k+1))) (p:=i*6+2) (by omega) (.int .i64 (k+1+1))).set (((hM1.o.set hlt (show 0<5 by omega) (.string s)).set hlt (show 1<5 by omega) (.int .i64 (k+1))).set hlt (show 2<5 by omega) (.int .i64 (k+1+1))) (p:=i*6+3) (by omega) (.int .i64 (k+1+1+1))).set ((((hM1.o.set hlt (show 0<5 by omega) (.string s)).set hlt (show 1<5 by omega) (.int .i64 (k+1))).set hlt (show 2<5 by omega) (.int .i64 (k+1+1))).set hlt (show 3<5 by omega) (.int .i64 (k+1+1+1))) (p:=i*6+4) (by omega) (.int .i64 (k+1+1+1+1)));rw[Nat.add_zero]at HM5 HB5 HD5;obtain⟨W5,hW5⟩:=nmd (((((w1.setCell ⟨g,i*6,none⟩ (.string s)).setCell ⟨g,i*6+1,none⟩ (.int .i64 (k+1))).setCell ⟨g,i*6+2,none⟩ (.int .i64 (k+1+1))).setCell ⟨g,i*6+3,none⟩ (.int .i64 (k+1+1+1))).setCell ⟨g,i*6+4,none⟩ (.int .i64 (k+1+1+1+1)));rw[←hW5]at HM5 HB5 HD5;have HC5:Zi (W5.cell? ⟨g,i*6,none⟩=some (.string s)∧W5.cell? ⟨g,i*6+1,none⟩=some (.int .i64 (k+1))∧W5.cell? ⟨g,i*6+2,none⟩=some (.int .i64 (k+1+1))∧W5.cell? ⟨g,i*6+3,none⟩=some (.int .i64 (k+1+1+1))∧W5.cell? ⟨g,i*6+4,none⟩=some (.int .i64 (k+1+1+1+1))):=by
    rw[Zi,hW5];refine⟨?_,?_,?_,?_,?_⟩ <;> simp[go_sem,c0,c1,c2,c3,c4]
   have HW5:=Zd hW5;clear hW5 hM1 hB1 hD1;obtain⟨ys,hy,hFy⟩:=HM5.o.row i hlt;have HFY:=Zd hFy;have HTU:=Zd (fun W' zs h1 h2 h3=>HM5.o.turn (W':=W') hlt (ys:=zs) h1 h2 h3);have HTD:=Zd (fun(W':World) (h1:W5.1.size≤W'.1.size) h2 h3=>(HD5.o.turn HM5.o hlt (W':=W') h2).next hlt hK.o HS.o (cells5 HC5.o (Pi h2 (HM5.o.off i hlt))) h3);obtain⟨nxo,h1⟩:=nmd ((el us i).2.2.2.2.2.1);obtain⟨nxc,h2⟩:=nmd ((el us i).2.2.2.2.2.2.1);obtain⟨n,h3⟩:=nmd ((el us i).2.2.2.2.2.2.2.length);rw[←h1,←h2]at HFY;rw[←h1,←h2,←h3]at c5;rw[←h1,←h2,←h3]at HTU HTD;rw[←h3]at hsz hks hy;clear h1 h2 h3 HM5 HD5 hFy;go_wp2_with fail;rw[←HW5.o];have hmk:=markIntS_any lo hi nxo nxc ys (k+1+1+1+1+1) W5 (by omega) (by omega) (by omega) HFY.o;rw[hy]at hmk;refine hmk.mono ?_;rintro e w6 ⟨rfl,hF6,hO6⟩;have hM6:=Zd (HTU.o w6 _ (by rw[Vc]) hF6 hO6);have hD6:=Zd (HTD.o w6 (by rw[hO6.size];exact Nat.le_refl _) hO6 hF6);have hB6:=Zd (HB5.o.trans (HFY.o.between (by rw[hy];exact hO6)));clear hF6 hO6;go_wp2;go_roundw
   case rel=>exact⟨i+1,k+1+1+1+1+1+n,by omega,by go_num,rfl,by omega,by push_cast;omega,by rw[Zi,hks,←hK.o];omega,hM6,hD6,hB6⟩
   case measure=>simp[intOf];omega
  ·obtain rfl:i=us.length:=by omega
   go_wp2;go_ret;exact⟨congrArg (fun z=>Ending.returned (Value.int .i64 z)) hK.o,hM.o,hD.o,hB.o⟩
theorem markNodes_nil(o:Option Addr)(c:Nat)(w:World) :
  Calls prog 19 #[.slice o 0 c,.int .i64 1] w fun e w'=>e=.returned (.int .i64 1)∧w'=w:=by
 go_enter func19,ntmps19;go_wp2
 go_loop [1,5] (fun v i=>v=.int .i64 1∧i=.int .i64 0) (fun _ _=>0)
 case atStart=>exact⟨rfl,rfl⟩
 case round =>
  obtain⟨rfl,rfl⟩:=hrel;go_wp2;go_ret;exact⟨rfl,rfl⟩
theorem heldNodes_nil(o:Option Addr)(c:Nat)(w:World) :
  Calls prog 20 #[.slice o 0 c,.int .i64 1] w fun e w'=>e=.returned (.int .i64 1)∧w'=w:=by
 go_enter func20,ntmps20;go_wp2
 go_loop [1,5] (fun v i=>v=.int .i64 1∧i=.int .i64 0) (fun _ _=>0)
 case atStart=>exact⟨rfl,rfl⟩
 case round =>
  obtain⟨rfl,rfl⟩:=hrel;go_wp2;go_ret;exact⟨rfl,rfl⟩
theorem heldNodes_is(lo hi g c:Nat)(us:List LNode)(w:World)(hft:FitR us)(h0:0<us.length)(hN:MkN lo hi w g us)(hD:MkD lo hi w g us us.length) :
  Calls prog 20 #[.slice (some ⟨g,0,none⟩) us.length c,.int .i64 1] w fun e w'=>e=.returned (.int .i64 (kN us us.length))∧Below w.1.size w w':=by
 have HN:=Zd hN;have HD:=Zd hD;have hl:=hft.1;clear hN hD;go_enter func20,ntmps20;go_wp2
 go_loopw [1,5] (fun v j wr=>∃(i:Nat)(k:Int),i≤us.length∧j=.int .i64 i∧v=.int .i64 k∧0<k∧k≤1+25*(i:Int)∧Zi (k=kN us i)∧Zi (Below w.1.size w wr)) (fun _ j _=>us.length-(intOf j).toNat)
 case atStart=>exact⟨0,1,Nat.zero_le _,rfl,rfl,by omega,by omega,rfl,Below.refl _ _⟩
 case round =>
  obtain⟨i,k,hi',rfl,rfl,hk,hkk,hK,hB⟩:=hrel
  by_cases hlt:i<us.length
  ·have hsz:=(hft.2 _ (Zh hlt)).2;have hks:=kN_succ hlt;have hii:(i:Int)<(us.length:Int):=by omega
   have hM:=Zd (HN.o.later hB.o);have hD1:=Zd (HD.o.later HN.o (Nat.le_refl _) hB.o);obtain⟨c0,c1,c2,c3,c4⟩:=hD1.o.cel i hlt;have c5:=hM.o.nxt i hlt;have hR:=Zd ((hD1.o.row i hlt).in);have hgs:=hM.o.lt;rw[←hK.o]at c0 c1 c2 c3 c4 hR;obtain⟨nxo,h1⟩:=nmd ((el us i).2.2.2.2.2.1);obtain⟨nxc,h2⟩:=nmd ((el us i).2.2.2.2.2.2.1);obtain⟨n,h3⟩:=nmd ((el us i).2.2.2.2.2.2.2.length);rw[←h1,←h2,←h3]at c5;rw[←h1,←h3]at hR;rw[←h3]at hsz hks;clear h1 h2 h3;have HMT:=Zd (fun W=>markTextX k W hk (by omega));obtain⟨s,hs⟩:=nmd (mtx k);rw[←hs]at HMT c0;have hss:(s.toList != s.toList)=false:=by simp
   clear hs;have hNE:=Xq wr;have x0:∀W:Later wr,W.w.cell? ⟨g,i*6,none⟩=some (.string s):=fun W=>Later.cell c0 hgs W
   go_upto_region 4 with fail
   refine Qb wr (by kernel_rfl) (by kernel_rfl) (Below.refl _ _) ?_
   repeat(go_big_quiet_step (first|(go_at_call 46;exact Calls.later (HMT.o _))))
   refine wpQuiet_nil ?_;rintro w4 ⟨⟨w5,hb4⟩,hw5⟩;obtain rfl:w4=w5:=hw5;have d1:=(hb4.cell (p:=⟨g,i*6+1,none⟩) hgs).trans c1;have d2:=(hb4.cell (p:=⟨g,i*6+2,none⟩) hgs).trans c2;have d3:=(hb4.cell (p:=⟨g,i*6+3,none⟩) hgs).trans c3;have d4:=(hb4.cell (p:=⟨g,i*6+4,none⟩) hgs).trans c4;have d5:=(hb4.cell (p:=⟨g,i*6+5,none⟩) hgs).trans c5;have hgs4:=Nat.lt_of_lt_of_le hgs hb4.size;have HR4:=Zd (hR.o.later hb4);have HB4:=Zd (hB.o.trans (hb4.mono hB.o.size));have n1:(k+1 != k+1)=false:=by simp
   have n2:(k+1+1 != k+1+1)=false:=by simp
   have n3:(k+1+1+1 != k+1+1+1)=false:=by simp
   have n4:(k+1+1+1+1 != k+1+1+1+1)=false:=by simp
   clear hb4 c0 c1 c2 c3 c4 c5 x0 hNE hgs hR hM hD1;go_wp2_with fail;refine(heldIntS_any nxo nxc n (k+1+1+1+1+1) w4 (by omega) (by omega) (by omega) HR4.o).mono ?_;rintro e w6 ⟨rfl,hw6⟩;rw[hw6];clear hw6 w6;have hneg:decide (k+1+1+1+1+1+(n:Int)<0)=false:=by simp;omega
   go_wp2;go_roundw
   case rel=>exact⟨i+1,k+1+1+1+1+1+n,by omega,by go_num,rfl,by omega,by push_cast;omega,by rw[Zi,hks,←hK.o];omega,HB4⟩
   case measure=>simp[intOf];omega
  ·obtain rfl:i=us.length:=by omega
   go_wp2;go_ret;exact⟨congrArg (fun z=>Ending.returned (Value.int .i64 z)) hK.o,hB.o⟩
end
def MkX(lo hi:Nat)(W:World)(o:Option Addr)(us:List LNode):Prop:=us=[]∨∃g,o=some ⟨g,0,none⟩∧0<us.length∧MkN lo hi W g us∧MkD lo hi W g us us.length
theorem MkX.later{lo hi:Nat}{W W':World}{o:Option Addr}{us:List LNode}(h:MkX lo hi W o us)(hb:Below W.1.size W W'):MkX lo hi W' o us:=by
 rcases h with h|⟨g,e,h0,hN,hD⟩
 ·exact .inl h
 ·exact .inr ⟨g,e,h0,hN.later hb,hD.later hN (Nat.le_refl _) hb⟩
theorem markX_is(lo hi:Nat)(o:Option Addr)(c:Nat)(us:List LNode)(w:World)(hft:FitR us)(hF:GR lo hi w o c us) :
  Calls prog 19 #[.slice o us.length c,.int .i64 1] w fun e w'=>e=.returned (.int .i64 (kN us us.length))∧MkX lo hi w' o us∧Between lo hi w w':=by
 by_cases h0:0<us.length
 ·obtain⟨g,e,_,_,_,_⟩:=(show Gq.Fresh lo hi w o c us from hF.1.1).at h0;subst e;refine(markNodes_is lo hi g c us w hft h0 hF.1).mono ?_;rintro e w' ⟨rfl,hN,hD,hB⟩;exact⟨rfl,.inr ⟨g,rfl,h0,hN,hD⟩,hB⟩
 ·obtain rfl:us=[]:=List.length_eq_zero_iff.1 (by omega);refine(markNodes_nil o c w).mono ?_;rintro e w' ⟨rfl,rfl⟩;exact⟨rfl,.inl rfl,Between.refl _ _ _⟩
theorem heldX_is(lo hi:Nat)(o:Option Addr)(c:Nat)(us:List LNode)(w:World)(hft:FitR us)(h:MkX lo hi w o us) :
  Calls prog 20 #[.slice o us.length c,.int .i64 1] w fun e w'=>e=.returned (.int .i64 (kN us us.length))∧Below w.1.size w w':=by
 rcases h with rfl|⟨g,rfl,h0,hN,hD⟩
 ·refine(heldNodes_nil o c w).mono ?_;rintro e w' ⟨rfl,rfl⟩;exact⟨rfl,Below.refl _ _⟩
 ·exact heldNodes_is lo hi g c us w hft h0 hN hD
def AnsGB(W:World)(gs:List PNode)(b:Bool)(e:Ending)(W':World):Prop :=
 (∃o c us hi,e=.returned (.tuple #[.slice o us.length c,.bool b])∧us.map Zz=gs∧GR W.1.size hi W' o c us∧hi≤W'.1.size∧FitR us)∧Below W.1.size W W'
theorem ansGT_gb{W:World}{s:ByteArray}{e:Ending}{W':World}(h:AnsGT W s e W'):AnsGB W (if(Qr s).2=true then(Qd st0 (Qr s).1).1.gs else[]) (Qr s).2 e W':=by
 obtain⟨hA,hb⟩:=h;refine⟨?_,hb⟩
 by_cases hg:(Qr s).2=true
 ·rw[if_pos hg]at hA ⊢;obtain⟨o,c,us,hi,he,hu,hG,hh,hF⟩:=hA;exact⟨o,c,us,hi,by rw[hg];exact he,hu,hG,hh,hF⟩
 ·rw[if_neg hg]at hA ⊢;have hf:(Qr s).2=false:=by simpa using hg
  exact⟨none,0,[],W'.1.size,by rw[hf];exact hA,rfl,gr_nil,Nat.le_refl _,⟨by simp,fun a ha=>by cases ha⟩⟩
theorem GR.between{lo hi l h:Nat}{W W':World}{o:Option Addr}{c:Nat}{us:List LNode}(hG:GR lo hi W o c us)(hB:Between l h W W')(hl:hi≤l):GR lo hi W' o c us:=hG.keep fun k _ h2 hk=>hB.block k hk (by omega)
theorem Fv(s:ByteArray)(ea:Nat→Addr)(w:World)(hV:Env w.1.size w ea) :
  Calls prog 5 #[.string s] w fun e w'=>e=.returned (.bool true)∧Below w.1.size w w':=by
 by_cases hbig:1048576<s.size
 ·have hbig':decide (1048576<(s.size:Int))=true:=by simp;omega
  go_enter func5,ntmps5;go_wp2;go_ret;exact⟨rfl,Below.refl _ _⟩
 have hbig':decide (1048576<(s.size:Int))=false:=by simp;omega
 have HSP:=Zd (fun W=>(specGraph_is s W (by omega)).mono fun _ _=>ansGT_gb);have HIM:=Zd (fun W (hW:Below w.1.size w W)=>(Fs w.1.size s W ea (by omega) (hV.step hW) hW.size).mono fun _ _=>ansGT_gb)
 generalize(if(Qr s).2=true then(Qd st0 (Qr s).1).1.gs else[])=gs at HSP HIM
 generalize(Qr s).2=b at HSP HIM
 have hn2:(b != b)=false:=by simp
 clear hV;go_enter func5,ntmps5;go_wp2_with fail;refine(HSP.o _).mono ?_;rintro e w1 ⟨⟨o1,c1,us1,hi1,rfl,hu1,hG1,hh1,hf1⟩,hb1⟩;have hl1:us1.length≤1048576:=by have:=hf1.1;omega
 have U1:=Zd hu1;have G1:=Zd hG1;have B1:=Zd hb1;have HH1:=Zd hh1;clear hu1 hG1 hb1 hh1 hf1 HSP;go_wp2_with fail;refine(HIM.o _ B1.o).mono ?_;rintro e w2 ⟨⟨o2,c2,us2,hi2,rfl,hu2,hG2,hh2,hf2⟩,hb2⟩;have U2:=Zd hu2;have G2:=Zd hG2;have F2:=Zd hf2;have G12:=Zd (G1.o.later hb2);have B2:=Zd (B1.o.trans (hb2.mono B1.o.size));have Z12:=Zd hb2.size;have HH2:=Zd hh2;have hl2:us2.length≤1048576:=by have:=hf2.1;omega
 clear hu2 hG2 hb2 hh2 hf2 G1;go_wp2_with fail;refine(Tt o2 o1 c2 c1 us2 us1 w2 hl2 (fun a ha=>by have:=(F2.o.2 a ha).2;omega) (U2.o.trans U1.o.symm) G2.o.in G12.o.in).mono ?_;rintro e w3 ⟨rfl,hb3⟩;have G13:=Zd (G12.o.later hb3);have G23:=Zd (G2.o.later hb3);have B3:=Zd (B2.o.trans (hb3.mono B2.o.size));have Z13:=Zd (Nat.le_trans Z12.o hb3.size);clear hb3 G12 G2;have hMK:=Zd (markX_is w1.1.size hi2 o2 c2 us2 w3 F2.o G23.o);have hkr:=(kN_rng F2.o (Nat.le_refl us2.length)).1;obtain⟨K,hK⟩:=nmd (kN us2 us2.length);rw[←hK]at hMK hkr;have HK:=Zd hK;have hk0:decide (K<0)=false:=by simp;omega
 have hkk:(K != K)=false:=by simp
 clear hK;go_wp2_with fail;refine hMK.o.mono ?_;rintro e w4 ⟨rfl,hX4,hb4⟩;have X4:=Zd hX4;have G14:=Zd (G13.o.between hb4 HH1.o);have B4:=Zd (B3.o.trans ((hb4.below Z13.o).mono B1.o.size));clear hX4 hb4 hMK G13 G23;have hHL:=Zd (heldX_is w1.1.size hi2 o2 c2 us2 w4 F2.o X4.o);rw[←HK.o]at hHL;go_wp2_with fail;refine hHL.o.mono ?_;rintro e w5 ⟨rfl,hb5⟩;have X5:=Zd (X4.o.later hb5);have G15:=Zd (G14.o.later hb5);have B5:=Zd (B4.o.trans (hb5.mono B4.o.size));clear hb5 hHL X4 G14;go_wp2_with fail;refine(HIM.o _ B5.o).mono ?_;rintro e w6 ⟨⟨o3,c3,us3,hi3,rfl,hu3,hG3,hh3,hf3⟩,hb6⟩;have U3:=Zd hu3;have G3:=Zd hG3;have F3:=Zd hf3;have X6:=Zd (X5.o.later hb6);have G16:=Zd (G15.o.later hb6);have B6:=Zd (B5.o.trans (hb6.mono B5.o.size));have hl3:us3.length≤1048576:=by have:=hf3.1;omega
 clear hu3 hG3 hb6 hh3 hf3 X5 G15 HIM;go_wp2_with fail;refine(Tt o3 o1 c3 c1 us3 us1 w6 hl3 (fun a ha=>by have:=(F3.o.2 a ha).2;omega) (U3.o.trans U1.o.symm) G3.o.in G16.o.in).mono ?_;rintro e w7 ⟨rfl,hb7⟩;have X7:=Zd (X6.o.later hb7);have B7:=Zd (B6.o.trans (hb7.mono B6.o.size));clear hb7 X6 G16 G3;have hHL:=Zd (heldX_is w1.1.size hi2 o2 c2 us2 w7 F2.o X7.o);rw[←HK.o]at hHL;go_wp2_with fail;refine hHL.o.mono ?_;rintro e w8 ⟨rfl,hb8⟩;have B8:=Zd (B7.o.trans (hb8.mono B7.o.size));clear hb8 hHL;go_wp2;go_ret;exact⟨rfl,B8.o⟩
end Go.Proofs.YtdacedbfnlkghaaGreatDoor