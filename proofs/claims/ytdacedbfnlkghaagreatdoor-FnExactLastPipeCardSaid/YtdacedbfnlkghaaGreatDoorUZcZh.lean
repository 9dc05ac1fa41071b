/- Pipes: sizes, copies, comparisons. A flow in memory. Counting atomically. A region that draws its order, walked once: what yields the same wherever S holds comes first; behind the last operations S need not hold. A token is put into a box. No conditions but those written. -/
import Derived.Test.YtdacedbfnlkghaaGreatDoorUOsZe
import Derived.Laws.LoneSync
import Derived.Laws.BitsLemmas
import Derived.OrdersHeld
namespace Go.Proofs.YtdacedbfnlkghaaGreatDoor
set_option maxHeartbeats 2000000
set_option maxRecDepth 100000
open Go.RowKit Go.Proofs.Tryz
section
open Go.RowKit
def InTT(n:Nat)(W:World)(ao:Option Addr)(ls:List (List (Int×Int×Int))):Prop:=∃hs,InRT n W ao hs ls
def FrTT(lo hi:Nat)(W:World)(ao:Option Addr)(c:Nat)(ls:List (List (Int×Int×Int))):Prop:=∃hs,FrRT lo hi W ao c hs ls
section
variable {lo hi n:Nat} {W W':World} {ao:Option Addr} {c:Nat} {ls:List (List (Int×Int×Int))}
theorem InTT.later(h:InTT W.1.size W ao ls)(hb:Below W.1.size W W'):InTT W'.1.size W' ao ls:=h.imp fun _ h=>h.later hb
theorem FrTT.in(h:FrTT lo hi W ao c ls):InTT W.1.size W ao ls:=h.imp fun _ h=>h.in
theorem FrTT.later(h:FrTT lo hi W ao c ls)(hb:Below W.1.size W W'):FrTT lo hi W' ao c ls:=h.imp fun _ h=>h.later hb
theorem FrTT.wide{lo' hi':Nat}(h:FrTT lo hi W ao c ls)(h1:lo'≤lo)(h2:hi≤hi'):FrTT lo' hi' W ao c ls:=h.imp fun _ h=>h.wide h1 h2
theorem FrTT.between'{lo' hi':Nat}(h:FrTT lo hi W ao c ls)(hb:Between lo' hi' W W')(hd:hi≤lo'∨hi'≤lo):FrTT lo hi W' ao c ls:=h.imp fun _ h=>h.between' hb hd
end
theorem eqTT_same(ao bo:Option Addr)(cap cap':Nat)(ls:List (List (Int×Int×Int)))(w:World)(hl:ls.length≤1048576∧Zs ls≤1048576)(hz:InTT w.1.size w ao ls)(hz':InTT w.1.size w bo ls) :
  Calls prog 49 #[.slice ao ls.length cap,.slice bo ls.length cap'] w fun e w'=>e=.returned (.bool true)∧Below w.1.size w w':=by
 obtain⟨hs,hz⟩:=hz;obtain⟨hs',hz'⟩:=hz';exact Fv ao bo cap cap' hs hs' ls w hl.1 hl.2 hz hz'
def InPipe(n:Nat)(W:World)(bxo:Option Addr)(bx:List (List (Int×Int×Int)))(emo:Option Addr)(em:List (Int×Int×Int))(fao:Option Addr)(fa:List (Int×Int×Int×Int))(fuo:Option Addr)(fu:List (Int)):Prop:=InTT n W bxo bx∧kOu.In n W emo em∧kLo.In n W fao fa∧kI.In n W fuo fu
def FrPipe(lo hi:Nat)(W:World)(bxo:Option Addr)(bxc:Nat)(bx:List (List (Int×Int×Int)))(emo:Option Addr)(emc:Nat)(em:List (Int×Int×Int))(fao:Option Addr)(fac:Nat)(fa:List (Int×Int×Int×Int))(fuo:Option Addr)(fuc:Nat)(fu:List (Int)):Prop:=FrTT lo hi W bxo bxc bx∧kOu.Fresh lo hi W emo emc em∧kLo.Fresh lo hi W fao fac fa∧kI.Fresh lo hi W fuo fuc fu
theorem InPipe.later{W W':World}{bxo:Option Addr}{bx:List (List (Int×Int×Int))}{emo:Option Addr}{em:List (Int×Int×Int)}{fao:Option Addr}{fa:List (Int×Int×Int×Int)}{fuo:Option Addr}{fu:List (Int)}(h:InPipe W.1.size W bxo bx emo em fao fa fuo fu)(hb:Below W.1.size W W'):InPipe W'.1.size W' bxo bx emo em fao fa fuo fu:=⟨h.1.later hb,h.2.1.later hb,h.2.2.1.later hb,h.2.2.2.later hb⟩
theorem FrPipe.in{lo hi:Nat}{W:World}{bxo:Option Addr}{bxc:Nat}{bx:List (List (Int×Int×Int))}{emo:Option Addr}{emc:Nat}{em:List (Int×Int×Int)}{fao:Option Addr}{fac:Nat}{fa:List (Int×Int×Int×Int)}{fuo:Option Addr}{fuc:Nat}{fu:List (Int)}(h:FrPipe lo hi W bxo bxc bx emo emc em fao fac fa fuo fuc fu):InPipe W.1.size W bxo bx emo em fao fa fuo fu:=⟨h.1.in,h.2.1.in,h.2.2.1.in,h.2.2.2.in⟩
theorem FrPipe.later{lo hi:Nat}{W W':World}{bxo:Option Addr}{bxc:Nat}{bx:List (List (Int×Int×Int))}{emo:Option Addr}{emc:Nat}{em:List (Int×Int×Int)}{fao:Option Addr}{fac:Nat}{fa:List (Int×Int×Int×Int)}{fuo:Option Addr}{fuc:Nat}{fu:List (Int)}(h:FrPipe lo hi W bxo bxc bx emo emc em fao fac fa fuo fuc fu)(hb:Below W.1.size W W'):FrPipe lo hi W' bxo bxc bx emo emc em fao fac fa fuo fuc fu:=⟨h.1.later hb,h.2.1.later hb,h.2.2.1.later hb,h.2.2.2.later hb⟩
theorem Bi(ti:Int)(it:Int)(cl:Bool)(bxo:Option Addr)(bxc:Nat)(bx:List (List (Int×Int×Int)))(emo:Option Addr)(emc:Nat)(em:List (Int×Int×Int))(fao:Option Addr)(fac:Nat)(fa:List (Int×Int×Int×Int))(fuo:Option Addr)(fuc:Nat)(fu:List (Int))(bxo':Option Addr)(bxc':Nat)(emo':Option Addr)(emc':Nat)(fao':Option Addr)(fac':Nat)(fuo':Option Addr)(fuc':Nat)(w:World)(hlbx:bx.length≤1048576∧Zs bx≤1048576)(hlem:em.length≤1048576)(hlfa:fa.length≤1048576)(hlfu:fu.length≤1048576)(hz:InPipe w.1.size w bxo bx emo em fao fa fuo fu)(hz':InPipe w.1.size w bxo' bx emo' em fao' fa fuo' fu) :
  Calls prog 23 #[.agg #[.int .i64 ti,.int .i64 it,.bool cl,.slice bxo bx.length bxc,.slice emo em.length emc,.slice fao fa.length fac,.slice fuo fu.length fuc],.agg #[.int .i64 ti,.int .i64 it,.bool cl,.slice bxo' bx.length bxc',.slice emo' em.length emc',.slice fao' fa.length fac',.slice fuo' fu.length fuc']] w fun e w'=>e=.returned (.bool true)∧Below w.1.size w w':=by
 have hti:(ti != ti)=false:=by simp
 have hit:(it != it)=false:=by simp
 have hcl:(cl != cl)=false:=by simp
 have hB0:=Qf w (.cells #[.int .i64 ti,.int .i64 it,.bool cl,.slice bxo bx.length bxc,.slice emo em.length emc,.slice fao fa.length fac,.slice fuo fu.length fuc] 48) (.cells #[.int .i64 ti,.int .i64 it,.bool cl,.slice bxo' bx.length bxc',.slice emo' em.length emc',.slice fao' fa.length fac',.slice fuo' fu.length fuc'] 48);have X0:=Zd ((Bx.new (w:=w) [.int .i64 ti,.int .i64 it,.bool cl,.slice bxo bx.length bxc,.slice emo em.length emc,.slice fao fa.length fac,.slice fuo fu.length fuc] 48 rfl).alloc (.cells #[.int .i64 ti,.int .i64 it,.bool cl,.slice bxo' bx.length bxc',.slice emo' em.length emc',.slice fao' fa.length fac',.slice fuo' fu.length fuc'] 48));have Y0:=Zd (Bx.new (w:=w.alloc (.cells #[.int .i64 ti,.int .i64 it,.bool cl,.slice bxo bx.length bxc,.slice emo em.length emc,.slice fao fa.length fac,.slice fuo fu.length fuc] 48)) (p:=w.1.size+1) [.int .i64 ti,.int .i64 it,.bool cl,.slice bxo' bx.length bxc',.slice emo' em.length emc',.slice fao' fa.length fac',.slice fuo' fu.length fuc'] 48 (by simp));go_enter func23,ntmps23;go_wp2_with fail;refine(eqTT_same bxo bxo' bxc bxc' bx _ hlbx (hz.1.later hB0) (hz'.1.later hB0)).mono ?_;rintro e w1 ⟨rfl,hb1⟩;have hB1:=hB0.trans (hb1.mono hB0.size);have X1:=Zd (X0.o.later hb1);have Y1:=Zd (Y0.o.later hb1);clear hb1 X0 Y0 hB0;have x0:=X1.o.c 0 rfl;have y0:=Y1.o.c 0 rfl;have x1:=X1.o.c 1 rfl;have y1:=Y1.o.c 1 rfl;have x2:=X1.o.c 2 rfl;have y2:=Y1.o.c 2 rfl;have x3:=X1.o.c 3 rfl;have y3:=Y1.o.c 3 rfl;have x4:=X1.o.c 4 rfl;have y4:=Y1.o.c 4 rfl;have x5:=X1.o.c 5 rfl;have y5:=Y1.o.c 5 rfl;have x6:=X1.o.c 6 rfl;have y6:=Y1.o.c 6 rfl;go_wp2_with fail;refine(eqOutS_same emo emo' emc emc' em _ hlem (hz.2.1.later hB1) (hz'.2.1.later hB1)).mono ?_;rintro e w2 ⟨rfl,hb2⟩;have hB2:=hB1.trans (hb2.mono hB1.size);have X2:=Zd (X1.o.later hb2);have Y2:=Zd (Y1.o.later hb2);clear hb2 X1 Y1 hB1;clear x0 y0 x1 y1 x2 y2 x3 y3 x4 y4 x5 y5 x6 y6;have x0:=X2.o.c 0 rfl;have y0:=Y2.o.c 0 rfl;have x1:=X2.o.c 1 rfl;have y1:=Y2.o.c 1 rfl;have x2:=X2.o.c 2 rfl;have y2:=Y2.o.c 2 rfl;have x3:=X2.o.c 3 rfl;have y3:=Y2.o.c 3 rfl;have x4:=X2.o.c 4 rfl;have y4:=Y2.o.c 4 rfl;have x5:=X2.o.c 5 rfl;have y5:=Y2.o.c 5 rfl;have x6:=X2.o.c 6 rfl;have y6:=Y2.o.c 6 rfl;go_wp2_with fail;refine(eqLostS_same fao fao' fac fac' fa _ hlfa (hz.2.2.1.later hB2) (hz'.2.2.1.later hB2)).mono ?_;rintro e w3 ⟨rfl,hb3⟩;have hB3:=hB2.trans (hb3.mono hB2.size);have X3:=Zd (X2.o.later hb3);have Y3:=Zd (Y2.o.later hb3);clear hb3 X2 Y2 hB2;clear x0 y0 x1 y1 x2 y2 x3 y3 x4 y4 x5 y5 x6 y6;have x0:=X3.o.c 0 rfl;have y0:=Y3.o.c 0 rfl;have x1:=X3.o.c 1 rfl;have y1:=Y3.o.c 1 rfl;have x2:=X3.o.c 2 rfl;have y2:=Y3.o.c 2 rfl;have x3:=X3.o.c 3 rfl;have y3:=Y3.o.c 3 rfl;have x4:=X3.o.c 4 rfl;have y4:=Y3.o.c 4 rfl;have x5:=X3.o.c 5 rfl;have y5:=Y3.o.c 5 rfl;have x6:=X3.o.c 6 rfl;have y6:=Y3.o.c 6 rfl;go_wp2_with fail;refine(eqIntS_same fuo fuo' fuc fuc' fu _ hlfu (hz.2.2.2.later hB3) (hz'.2.2.2.later hB3)).mono ?_;rintro e w4 ⟨rfl,hb4⟩;have hB4:=hB3.trans (hb4.mono hB3.size);have X4:=Zd (X3.o.later hb4);have Y4:=Zd (Y3.o.later hb4);clear hb4 X3 Y3 hB3;clear x0 y0 x1 y1 x2 y2 x3 y3 x4 y4 x5 y5 x6 y6;have x0:=X4.o.c 0 rfl;have y0:=Y4.o.c 0 rfl;have x1:=X4.o.c 1 rfl;have y1:=Y4.o.c 1 rfl;have x2:=X4.o.c 2 rfl;have y2:=Y4.o.c 2 rfl;have x3:=X4.o.c 3 rfl;have y3:=Y4.o.c 3 rfl;have x4:=X4.o.c 4 rfl;have y4:=Y4.o.c 4 rfl;have x5:=X4.o.c 5 rfl;have y5:=Y4.o.c 5 rfl;have x6:=X4.o.c 6 rfl;have y6:=Y4.o.c 6 rfl;go_wp2;go_ret;exact⟨rfl,hB4⟩
end
structure PP where
 ti:Int
 it:Int
 cl:Bool
 bx:List (List (Int×Int×Int))
 em:List (Int×Int×Int)
 fa:List (Int×Int×Int×Int)
 fu:List Int
structure Flow(lo:Nat)(W:World)(p bb:Nat)(gv sv:Value)(xs:List Value)(ev fv uv:Value)(s:PP):Prop where
 box:Bx W p [gv,sv,.int .i64 s.ti,.int .i64 s.it,.bool s.cl,.slice (some ⟨bb,0,none⟩) s.bx.length s.bx.length,ev,fv,uv,.int .i64 (Zs s.bx:Int)]
 hnd:HandsT bb W xs s.bx
 emo:kOu.Own lo W ev s.em
 fao:kLo.Own lo W fv s.fa
 fuo:kI.Own lo W uv s.fu
 lop:lo≤p
 lob:lo≤bb
 pbb:p≠bb
 px:∀j,j<s.bx.length→(el xs j).ownBlock≠some p
 pe:ev.ownBlock≠some p
 pf:fv.ownBlock≠some p
 pu:uv.ownBlock≠some p
def FO(p bb:Nat)(xs:List Value)(ev fv uv:Value)(b:Nat):Prop:=b=p∨b=bb∨(∃j,j<xs.length∧(el xs j).ownBlock=some b)∨ev.ownBlock=some b∨fv.ownBlock=some b∨uv.ownBlock=some b
def Fl(lo:Nat)(W:World)(p:Nat)(gv sv:Value)(s:PP)(O:Nat→Prop):Prop:=∃bb xs ev fv uv,Flow lo W p bb gv sv xs ev fv uv s∧∀b,FO p bb xs ev fv uv b→O b
def FStep(lo p:Nat)(gv sv:Value)(O:Nat→Prop)(W W':World)(s':PP):Prop :=
 ∃O',Fl lo W' p gv sv s' O'∧(∀b,O' b→(O b∨W.1.size≤b))∧Below lo W W'∧∀b,b<W.1.size→¬O b→W'.heap[b]? = W.heap[b]?
theorem Flow.later{lo:Nat}{W W':World}{p bb:Nat}{gv sv:Value}{xs:List Value}{ev fv uv:Value}{s:PP}(h:Flow lo W p bb gv sv xs ev fv uv s)(hb:Below W.1.size W W'):Flow lo W' p bb gv sv xs ev fv uv s :=
 ⟨h.box.later hb,h.hnd.later hb,h.emo.below hb,h.fao.below hb,h.fuo.below hb,h.lop,h.lob,h.pbb,h.px,h.pe,h.pf,h.pu⟩
theorem FStep.later{lo p:Nat}{gv sv:Value}{O:Nat→Prop}{W W1 W2:World}{s:PP}(h:FStep lo p gv sv O W W1 s)(hb:Below W1.1.size W1 W2)(hlo:lo≤W.1.size):FStep lo p gv sv O W W2 s:=by
 obtain⟨O1,⟨bb,xs,ev,fv,uv,f,ho⟩,s1,b1,k1⟩:=h;have hs:=b1.size;exact⟨O1,⟨bb,xs,ev,fv,uv,f.later hb,ho⟩,s1,b1.trans (hb.mono (by omega)),fun b h1 h2=>(hb.block b (by omega)).trans (k1 b h1 h2)⟩
theorem Flow.head{lo:Nat}{W:World}{p bb:Nat}{gv sv:Value}{xs:List Value}{ev fv uv:Value}{s:PP}(h:Flow lo W p bb gv sv xs ev fv uv s){k:Nat}(hk:k<s.bx.length):W.cell? ⟨bb,k,none⟩=some (el xs k)∧W.frozen? ⟨bb,k,none⟩=false:=by
 have hx:k<xs.length:=by rw[h.hnd.len];exact hk
 refine⟨(h.hnd.head.cellAt k (by omega)).trans ?_,h.hnd.head.frozenAt k⟩
 simp[el,hx]
theorem Flow.bbx{lo:Nat}{W:World}{p bb:Nat}{gv sv:Value}{xs:List Value}{ev fv uv:Value}{s:PP}(h:Flow lo W p bb gv sv xs ev fv uv s){k:Nat}(hk:k<s.bx.length):(el xs k).ownBlock≠some bb:=fun e=>by
 have:=(Zj (h.hnd.row k hk) e).1;omega
theorem Xp{α:Type}{K:Kind α}{lo g n lo2:Nat}{T:TypeId}{W:World}{v:Value}{xs:List α}{cs:List Value}(h:K.Own lo W v xs)(hr:W.ownsRow lo2 T 1 (.slice (some ⟨g,0,none⟩) n n) n cs)(hne:K.ty≠T):v.ownBlock≠some g:=fun hb=>by
 rcases h.2 with⟨e,_⟩|⟨g1,cap,cur,e,_,hh,_⟩
 ·subst e;simp[Value.ownBlock]at hb
 ·rcases hr.2 with⟨e2,_⟩|⟨g2,cap2,cur2,e2,_,hh2,_⟩
  ·simp at e2
  ·subst e
   simp[Value.ownBlock]at hb
   simp at e2
   rw[hb]at hh;rw[←e2.1,hh]at hh2
   simp at hh2
   exact hne hh2.2
theorem Flow.apart{lo:Nat}{W:World}{p bb:Nat}{gv sv:Value}{xs:List Value}{ev fv uv:Value}{s:PP}(h:Flow lo W p bb gv sv xs ev fv uv s){b:Nat}(hb:ev.ownBlock=some b∨fv.ownBlock=some b∨uv.ownBlock=some b) :
  b<W.1.size∧b≠p∧b≠bb∧∀j,j<s.bx.length→(el xs j).ownBlock≠some b:=by
 rcases hb with hb|hb|hb
 ·exact⟨(Zj h.emo hb).2,fun e=>h.pe (by rw[←e];exact hb),fun e=>Xp h.emo h.hnd.head (by decide) (by rw[←e];exact hb),fun j hj=>Xm h.emo (h.hnd.row j hj) (by decide) hb⟩
 ·exact⟨(Zj h.fao hb).2,fun e=>h.pf (by rw[←e];exact hb),fun e=>Xp h.fao h.hnd.head (by decide) (by rw[←e];exact hb),fun j hj=>Xm h.fao (h.hnd.row j hj) (by decide) hb⟩
 ·exact⟨(Zj h.fuo hb).2,fun e=>h.pu (by rw[←e];exact hb),fun e=>Xp h.fuo h.hnd.head (by decide) (by rw[←e];exact hb),fun j hj=>Xm h.fuo (h.hnd.row j hj) (by decide) hb⟩
theorem Flow.turn{lo:Nat}{W W':World}{p bb:Nat}{gv sv:Value}{xs xs':List Value}{ev fv uv:Value}{s:PP}{bx':List (List (Int×Int×Int))}{ti' it':Int}{cl':Bool}(h:Flow lo W p bb gv sv xs ev fv uv s)
  (hbox:Bx W' p [gv,sv,.int .i64 ti',.int .i64 it',.bool cl',.slice (some ⟨bb,0,none⟩) bx'.length bx'.length,ev,fv,uv,.int .i64 (Zs bx':Int)]) (hh:HandsT bb W' xs' bx')
  (hk:∀b,(ev.ownBlock=some b∨fv.ownBlock=some b∨uv.ownBlock=some b)→W'.heap[b]? = W.heap[b]?) (hp:∀j,j<bx'.length→(el xs' j).ownBlock≠some p) :
  Flow lo W' p bb gv sv xs' ev fv uv { ti:=ti',it:=it',cl:=cl',bx:=bx',em:=s.em,fa:=s.fa,fu:=s.fu } :=
 ⟨hbox,hh,Za h.emo fun b hb=>hk b (.inl hb),Za h.fao fun b hb=>hk b (.inr (.inl hb)),Za h.fuo fun b hb=>hk b (.inr (.inr hb)),h.lop,h.lob,h.pbb,hp,h.pe,h.pf,h.pu⟩
theorem HandsT.keep{g:Nat}{W W':World}{xs:List Value}{ls:List (List (Int×Int×Int))}(h:HandsT g W xs ls)(hg:W'.heap[g]? = W.heap[g]?)(hk:∀j,j<ls.length→∀b,(el xs j).ownBlock=some b→W'.heap[b]? = W.heap[b]?):HandsT g W' xs ls :=
 ⟨h.len,Ji h.head hg,fun j hj=>Za (h.row j hj) (hk j hj),h.off⟩
theorem Flow.setFar{lo:Nat}{W:World}{p bb:Nat}{gv sv:Value}{xs:List Value}{ev fv uv:Value}{s:PP}(h:Flow lo W p bb gv sv xs ev fv uv s){a:Addr}(ha:¬FO p bb xs ev fv uv a.block)(u:Value):Flow lo (W.setCell a u) p bb gv sv xs ev fv uv s:=by
 have hk:∀b,FO p bb xs ev fv uv b→(W.setCell a u).heap[b]? = W.heap[b]? := fun b hb=>Below.heap_setCell _ _ _ _ (fun e=>ha (by rw[←e];exact hb))
 exact⟨h.box.other (fun e=>ha (.inl e)) u,h.hnd.keep (hk bb (.inr (.inl rfl))) (fun j hj b hb=>hk b (.inr (.inr (.inl ⟨j,by rw[h.hnd.len];exact hj,hb⟩)))),Za h.emo fun b hb=>hk b (.inr (.inr (.inr (.inl hb)))),Za h.fao fun b hb=>hk b (.inr (.inr (.inr (.inr (.inl hb))))),Za h.fuo fun b hb=>hk b (.inr (.inr (.inr (.inr (.inr hb))))),h.lop,h.lob,h.pbb,h.px,h.pe,h.pf,h.pu⟩
theorem Yn{α:Type}{K:Kind α}{lo lo':Nat}{W:World}{v:Value}{xs:List α}(h:K.Own lo W v xs)(hl:lo'≤lo):K.Own lo' W v xs:=by
 obtain⟨h1,h2⟩:=h;refine⟨h1,?_⟩
 rcases h2 with h2|⟨g,cap,cur,e,hg,r⟩
 ·exact .inl h2
 ·exact .inr ⟨g,cap,cur,e,Nat.le_trans hl hg,r⟩
theorem Wt(x:List (Int×Int×Int))(r:List (List (Int×Int×Int))):Zs (x::r)=x.length+Zs r:=by simp[Zs]
theorem Jb:∀{ls:List (List (Int×Int×Int))}{k:Nat}(x:List (Int×Int×Int)),k<ls.length→Zs (ls.set k x)+(el ls k).length=Zs ls+x.length
 | [],_,_,h=>by simp at h
 |y::r,0,x,_=>by rw[List.set_cons_zero,Wt,Wt];simp only[el,List.getElem?_cons_zero,Option.getD_some];omega
 |y::r,k+1,x,h=>by
  have ih:=Jb (ls:=r) (k:=k) x (by simpa using h);have e:el (y::r) (k+1)=el r k:=by simp[el]
  rw[List.set_cons_succ,Wt,Wt,e];omega
theorem Ht(p off:Nat)(x:Int)(w:World)(hc:w.cell? ⟨p,off,none⟩=some (.int .i64 x)) :
  Calls prog 167 #[.pointer (some ⟨p,off,none⟩)] w fun e w'=>e=.returned (.int .i64 x)∧w'=w:=by
 have hl:=run_call_load (P:=prog) func207 (by kernel_rfl) (by kernel_rfl) (by kernel_rfl) .i64 (by kernel_rfl) hc;go_enter func167,ntmps167;go_wp2;go_ret;exact⟨rfl,rfl⟩
theorem add_any(p off:Nat)(x y z:Int)(w:World)(hc:w.cell? ⟨p,off,none⟩=some (.int .i64 x))(hf:w.frozen? ⟨p,off,none⟩=false)(hz:z=x+y)(h0 : -1000000000≤z)(h1:z≤1000000000) :
  Calls prog 265 #[.pointer (some ⟨p,off,none⟩),.int .i64 y] w fun e w'=>e=.returned (.int .i64 z)∧w'=w.setCell ⟨p,off,none⟩ (.int .i64 z):=by
 have hw:IntKind.i64.wrap (x+y)=z:=by rw[IntKind.wrap_i64];omega
 have hl:=run_call_add (P:=prog) func273 (by kernel_rfl) (by kernel_rfl) (by kernel_rfl) .i64 (by kernel_rfl) (y:=y) (s:=z) hc hf (by simp[go_sem,hw]);clear hz hw;go_enter func265,ntmps265;go_wp2;go_ret;exact⟨rfl,rfl⟩
section
open Go Go.RowKit
section
variable {P:Program} {ops:Array Oper} {Q:Exit→Act→World→Prop} {md:Region.Mode} {S:World→Prop} {zs:Nat→Bool}
def Walks(P:Program)(md:Region.Mode)(ops:Array Oper)(Q:Exit→Act→World→Prop)(S:World→Prop)(zs:Nat→Bool):Nat→Array Bool→Act→World→Prop
 |0,ls,a,w=>Region.ready md ops ls=[]∧Q .normal a w
 |n+1,ls,a,w=>(Region.ready md ops ls=[]→Q .normal a w)∧
   ∀i,i∈Region.ready md ops ls→wpOp P ops Q i (fun b y=>(zs i=false→S y)∧Walks P md ops Q S zs n (ls.setIfInBounds i true) b y) a w
theorem Walks.any:∀{n:Nat}{ls:Array Bool}{a:Act}{w:World},Walks P md ops Q S zs n ls a w→wpAny P md ops Q n ls a w
 |0,_,_,_,h=>h
 |_+1,_,_,_,h=>⟨h.1,fun i hi=>wpOp_mono (fun _ _ hb=>hb.2.any) (h.2 i hi)⟩
def Lz(md:Region.Mode)(ops:Array Oper)(zs:List Nat)(i:Nat):Bool:=zs.all fun z=>match ops[z]? with|some o=>o.after.any fun e=>Region.binds md e && e.on==i|none=>true
theorem lastWait_not{zl:List Nat}{i j:Nat}{ls:Array Bool}(h:Lz md ops zl i=true)(hi:i∈Region.ready md ops ls)(hj:j∈Region.ready md ops ls):zl.contains j=false:=by
 cases hc:zl.contains j with
 |false=>rfl
 |true =>
  exfalso
  obtain⟨_,o,ho,hall⟩:=mem_ready.1 hj;have h1:=List.all_eq_true.1 h j (by simpa using hc);rw[ho]at h1;obtain⟨k,hk,he⟩:=Array.any_eq_true.1 h1;simp only[Bool.and_eq_true,beq_iff_eq]at he;have h2:=hall _ (Array.getElem_mem hk) he.1;have h0:=(mem_ready.1 hi).1;rw[he.2]at h2
  rcases Nat.lt_or_ge i ls.size with hl|hl
  ·simp[hl]at h0 h2;rw[h0]at h2;cases h2
  ·simp[Array.getElem?_eq_none hl]at h2
theorem Walks.take{zl:List Nat}{i:Nat}{oi:Oper}{v:Value}(ho:ops[i]? = some oi)(hs:Region.noSelect ops=true)(hl:Lz md ops zl i=true)(hQ:∀c a w,Q (.panic c) (a.put oi.dst v) w→Q (.panic c) a w) :
  ∀(n:Nat)(ls:Array Bool)(a:Act)(w:World),Region.free md ops ls i=true→(Region.ready md ops ls).contains i=true→YieldsIf P ops S oi v a→S w→
   Walks P md ops Q S (zl.contains ·) n (ls.setIfInBounds i true) (a.put oi.dst v) w→Walks P md ops Q S (zl.contains ·) (n+1) ls a w:=by
 suffices H:∀(n:Nat)(ls:Array Bool)(a:Act)(w:World),(∀j o,ops[j]? = some o→j≠i→ls.getD j true=false→(∀e∈o.after,Region.binds md e=true→e.on≠i)→oi.apart ops o=true)→i∈Region.ready md ops ls→YieldsIf P ops S oi v a→S w→
   Walks P md ops Q S (zl.contains ·) n (ls.setIfInBounds i true) (a.put oi.dst v) w→Walks P md ops Q S (zl.contains ·) (n+1) ls a w from
  fun n ls a w hf hr=>H n ls a w (Region.free_spec ho hf) (by simpa using hr)
 have hsel:=Region.noSelect_spec hs;intro n
 induction n with
 |zero =>
  intro ls a w _ hr hy hS h;refine⟨fun e=>(by rw[e]at hr;cases hr),fun j hj=>?_⟩
  rcases Decidable.em (j=i)with rfl|hne
  ·exact hy.wpOp ho hS ⟨fun _=>hS,h⟩
  ·have hm:=ready_mono hj hne;rw[h.1]at hm;cases hm
 |succ n ih =>
  intro ls a w hf hr hy hS h;refine⟨fun e=>(by rw[e]at hr;cases hr),fun j hj=>?_⟩
  rcases Decidable.em (j=i)with rfl|hne
  ·exact hy.wpOp ho hS ⟨fun _=>hS,h⟩
  have hz:=lastWait_not hl hr hj;obtain⟨hun,oj,hoj,hall⟩:=mem_ready.1 hj;have hno:∀e∈oj.after,Region.binds md e=true→e.on≠i:=fun e he hb hon=>by
   have h2:=hall e he hb;have h0:=(mem_ready.1 hr).1;rw[hon]at h2
   rcases Nat.lt_or_ge i ls.size with hl|hl
   ·simp[hl]at h0 h2;rw[h0]at h2;cases h2
   ·simp[Array.getElem?_eq_none hl]at h2
  refine wpOp_mono (fun b y hb=>?_) (wpOp_putIf hoj (hf j oj hoj hne hun hno) (fun c d=>hsel i oi c d ho) (fun c d=>hsel j oj c d hoj) hQ hy (h.2 j (ready_mono hj hne)));obtain⟨hy2,hS2,h2⟩:=hb;refine⟨fun _=>hS2 hz,ih _ b y (fun k ok hk hki hku hkn=>hf k ok hk hki ?_ hkn) (ready_mono hr (Ne.symm hne)) hy2 (hS2 hz) (by rw[Array.setIfInBounds_comm _ _ hne];exact h2)⟩
  rcases Decidable.em (j=k)with rfl|hjk
  ·exact hun
  ·rw[getD_set_ne true hjk]at hku;exact hku
theorem Walks.one{n i:Nat}{ls:Array Bool}{a:Act}{w:World}{o:Oper}(hr:Region.ready md ops ls=[i])(ho:ops[i]? = some o)
  (h:∀K:Act→World→Prop,Shut (∀b y,(zs i=false→S y)→((zs i=false→S y)→Walks P md ops Q S zs n (ls.setIfInBounds i true) b y)→K b y)→if Region.wanted o (yielded ops a.tmps)=true then Oper.wp P o a w K Q else K (a.put o.dst undef) w):Walks P md ops Q S zs (n+1) ls a w :=
 ⟨fun e=>(by rw[hr]at e;cases e),fun j hj=>by
  rw[hr]at hj;obtain rfl:=List.mem_singleton.1 hj;exact wpOp_step ho fun K hK=>h K fun b y h1 h2=>hK b y ⟨h1,h2 h1⟩⟩
theorem Zq{zl:List Nat}(i:Nat){oi:Oper}{v:Value}{n:Nat}{ls:Array Bool}{a:Act}{w:World}(hS:S w)(h:Walks P md ops Q S (zl.contains ·) n (ls.setIfInBounds i true) (a.put oi.dst v) w)(ho:ops[i]? = some oi:=by exact rfl)(hs:Region.noSelect ops=true:=by kernel_rfl)(hl:Lz md ops zl i=true:=by kernel_rfl)(hQ:∀c a w,Q (.panic c) (a.put oi.dst v) w→Q (.panic c) a w:=by exact fun _ _ _ h=>h)(hf:Region.free md ops ls i=true:=by kernel_rfl)(hr:(Region.ready md ops ls).contains i=true:=by kernel_rfl)(hy:YieldsIf P ops S oi v a:=by exact .inl ⟨by rfl,by intro w' hSw;(try dsimp only at hSw);go_simp <;> with_reducible rfl⟩):Walks P md ops Q S (zl.contains ·) (n+1) ls a w:=Walks.take ho hs hl hQ n ls a w hf hr hy hS h
theorem Walks.on{n:Nat}(i:Nat){ls:Array Bool}{a:Act}{w:World}{o:Oper}(h:∀K:Act→World→Prop,Shut (∀b y,(zs i=false→S y)→((zs i=false→S y)→Walks P md ops Q S zs n (ls.setIfInBounds i true) b y)→K b y)→if Region.wanted o (yielded ops a.tmps)=true then Oper.wp P o a w K Q else K (a.put o.dst undef) w)(hr:Region.ready md ops ls=[i]:=by kernel_rfl)(ho:ops[i]? = some o:=by exact rfl):Walks P md ops Q S zs (n+1) ls a w:=Walks.one hr ho h
theorem Walks.done{ls:Array Bool}{a:Act}{w:World}(hr:Region.ready md ops ls=[])(h:Q .normal a w):∀n,Walks P md ops Q S zs n ls a w
 |0=>⟨hr,h⟩
 |_+1=>⟨fun _=>h,fun i hi=>by rw[hr]at hi;cases hi⟩
theorem Walks.weaken{S':World→Prop}(hS:∀y,S' y→S y):∀{n:Nat}{ls:Array Bool}{a:Act}{w:World},Walks P md ops Q S' zs n ls a w→Walks P md ops Q S zs n ls a w
 |0,_,_,_,h=>h
 |_+1,_,_,_,h=>⟨h.1,fun i hi=>wpOp_mono (fun _ _ hb=>⟨fun hz=>hS _ (hb.1 hz),hb.2.weaken hS⟩) (h.2 i hi)⟩
theorem Qq{zl:List Nat}{id:Nat}{a:Act}{w:World}(hm:P.follows .mixedOrders=true)(hS:S w.drew)
  (h:S w.drew→Walks P .any ops Q S (zl.contains ·) ops.size (Array.replicate ops.size false) a w.drew):(Code.region id ops true).wp P Q a w:=wp_region_any hm (h hS).any
end
end
section
open Go.RowKit
section
variable {α:Type} {K:Kind α}
theorem wp_of_list{ops:Array Oper}{o:Oper}{a:Act}{W:World}{K':Act→World→Prop}{Q:Exit→Act→World→Prop}{E:Prop}(hg:o.guard=none)(h:∀Q2:Exit→Act→World→Prop,(∀b y,K' b y→wpList prog ops Q2 [] b y)→wpList prog ops Q2 [o] a W) :
  if Region.wanted o (yielded ops a.tmps)=true then Oper.wp prog o a W K' Q else E:=by
 have hw:Region.wanted o (yielded ops a.tmps)=true:=by simp[Region.wanted,hg]
 rw[if_pos hw];have h2:=h (fun e b y=>match e with| .normal=>K' b y| .panic c=>Q (.panic c) b y|_=>False) (fun _ _ hk=>hk);rw[wpList,if_pos hw]at h2
 rcases h2 with h2|⟨_,_,_,hf⟩
 ·unfold Oper.wp at h2 ⊢
  generalize(execOp a.eval o).run prog W=r at h2 ⊢
  cases r with
  |ok x y =>
   cases x <;> simp only[Oper.upon]at h2 ⊢
   case enter f args =>
    refine Calls.mono h2 fun e y2 he=>?_
    cases e with
    |returned v=>exact he
    |panicked c=>exact he
    |outgrown=>obtain⟨_,_,hf⟩:=he;exact hf.elim
   all_goals exact h2
  |halt x y=>cases x <;> simp only[Oper.upon]at h2 ⊢ <;> exact h2
 ·exact hf.elim
theorem Je [Inhabited α] (hK:K.Ok) {ops:Array Oper} {o:Oper} {a:Act} {K':Act→World→Prop} {Q:Exit→Act→World→Prop} {E:Prop} (W:World) (hg:o.guard=none) (s x:Operand) (hop:o.op=Op.call { callee:=Callee.builtin Builtin.append,args := #[s,x],argTypes := #[K.st,K.st] })
  (lo:Nat) (v:Value) (xs:List α) (hs:a.eval s=v) (hown:K.Own lo W v xs) (hlo:lo≤W.1.size)
  (ao:Option Addr) (ys:List α) (m c:Nat) (hx:a.eval x=.slice ao m c) (hm:ys.length=m) (hno:ao=none→c=0) (n:Nat) (hz:K.In n W ao ys) (hl:xs.length+ys.length≤4194304)
  (hk:∀v' w',K.Own lo w' v' (xs++ys)→Below lo W w'→W.grownBy w' v.ownBlock→(∀g,v'.ownBlock=some g→v.ownBlock=some g∨W.1.size≤g)→K' (a.put o.dst v') w') :
  if Region.wanted o (yielded ops a.tmps)=true then Oper.wp prog o a W K' Q else E :=
 wp_of_list hg fun _ hq=>Kq hK W hg s x hop lo v xs hs hown hlo ao ys m c hx hm hno n hz hl fun v' w' h1 h2 h3 h4=>hq _ _ (hk v' w' h1 h2 h3 h4)
end
theorem put_any(lo:Nat)(W:World)(p bb:Nat)(gv sv:Value)(xs:List Value)(ev fv uv:Value)(s:PP)(k:Nat)(t1 t2 t3:Int)(h:Flow lo W p bb gv sv xs ev fv uv s)(hk:k<s.bx.length)(ht:Zs s.bx≤100000) :
  Calls prog 266 #[.pointer (some ⟨p,0,none⟩),.int .i64 (k:Int),.agg #[.int .i64 t1,.int .i64 t2,.int .i64 t3]] W fun e W'=>(∃v,e=.returned v)∧FStep lo p gv sv (FO p bb xs ev fv uv) W W' { s with bx:=s.bx.set k (el s.bx k++[(t1,t2,t3)]) }:=by
 have hp:=h.box.size;have hbb:=h.hnd.size;have hxk:k<xs.length:=by rw[h.hnd.len];exact hk
 obtain⟨ho,hc,hsl,hcn,_⟩:=h.hnd.slice hk;have hb0:=Zk W (.cells #[.int .i64 t1,.int .i64 t2,.int .i64 t3] 163);have F0:=h.later hb0;have T0:=Bx.new (w:=W) [.int .i64 t1,.int .i64 t2,.int .i64 t3] 163 rfl;obtain⟨V,hV⟩:=nmd ((W.alloc (.cells #[.int .i64 t1,.int .i64 t2,.int .i64 t3] 163)));rw[←hV]at hb0 F0 T0;have HV:=Zd hV;have c5:=F0.box.c 5 rfl;have ck:=(F0.head hk).1;rw[hsl]at ck;have hki:(k:Int)<(s.bx.length:Int):=by omega
 have hVs:V.1.size=W.1.size+1:=by rw[hV];simp
 have HVs:=Zd hVs;have C0:Zi (V.cell? ⟨p,5,none⟩=some (.slice (some ⟨bb,0,none⟩) s.bx.length s.bx.length)∧V.cell? ⟨bb,k,none⟩=some (.slice ho (el s.bx k).length hc)∧V.cell? ⟨W.1.size,0,none⟩=some (.int .i64 t1)∧V.cell? ⟨W.1.size,1,none⟩=some (.int .i64 t2)∧V.cell? ⟨W.1.size,2,none⟩=some (.int .i64 t3)):=⟨c5,ck,T0.c 0 rfl,T0.c 1 rfl,T0.c 2 rfl⟩;have HF0:=Zd F0;have HB0:=Zd hb0;clear hV hb0 F0 T0 c5 ck hVs;go_enter func266,ntmps266;go_wp2;rw[←HV.o];refine Qq (zl:=[18]) (S:=fun Y=>Y.cell? ⟨p,5,none⟩=some (.slice (some ⟨bb,0,none⟩) s.bx.length s.bx.length)∧Y.cell? ⟨bb,k,none⟩=some (.slice ho (el s.bx k).length hc)∧Y.cell? ⟨W.1.size,0,none⟩=some (.int .i64 t1)∧Y.cell? ⟨W.1.size,1,none⟩=some (.int .i64 t2)∧Y.cell? ⟨W.1.size,2,none⟩=some (.int .i64 t3)) (by kernel_rfl) C0.o (fun hH=>?_);refine Zq 0 hH ?_;refine Zq 1 hH ?_;refine Zq 2 hH ?_;refine Zq 3 hH ?_;refine Zq 4 hH ?_;refine Zq 5 hH ?_;refine Zq 6 hH ?_;refine Zq 7 hH ?_;refine Zq 8 hH ?_;refine Zq 9 hH ?_;refine Zq 10 hH ?_;refine Zq 11 hH ?_;refine Zq 12 hH ?_;refine Zq 13 hH ?_;refine Zq 14 hH ?_;refine Walks.on 15 fun K hK=>?_
 go_simp;obtain⟨U,hU⟩:=nmd ((V.alloc (.cells #[.int .i64 t1,.int .i64 t2,.int .i64 t3] 163)).drew);rw[←hU];have hbU:Below V.1.size V U:=by rw[hU];exact(Zk V _).drew
 have hN:kTk.In U.1.size U (some ⟨V.1.size,0,none⟩) [(t1,t2,t3)]:=by
  have hx:Bx U V.1.size [.int .i64 t1,.int .i64 t2,.int .i64 t3]:=by rw[hU];exact(Bx.new (w:=V) [.int .i64 t1,.int .i64 t2,.int .i64 t3] 163 rfl).drew
  exact kTk_one hx.size (hx.c 0 rfl) (hx.c 1 rfl) (hx.c 2 rfl)
 have hUs:V.1.size<U.1.size:=by rw[hU];show V.1.size<(V.alloc _).heap.size;simp
 have FU:=HF0.o.later hbU;have C1:=C0.o;have hpV:p<V.1.size:=by have:=HVs.o;omega
 have hbV:bb<V.1.size:=by have:=HVs.o;omega
 have htV:W.1.size<V.1.size:=by have:=HVs.o;omega
 refine hK.out _ _ (fun _=>⟨(hbU.cell (p:=⟨p,5,none⟩) hpV).trans C1.1,(hbU.cell (p:=⟨bb,k,none⟩) hbV).trans C1.2.1,(hbU.cell (p:=⟨W.1.size,0,none⟩) htV).trans C1.2.2.1,(hbU.cell (p:=⟨W.1.size,1,none⟩) htV).trans C1.2.2.2.1,(hbU.cell (p:=⟨W.1.size,2,none⟩) htV).trans C1.2.2.2.2⟩) (fun hU0=>?_);clear hK K hU C1;refine Walks.on 16 fun K hK=>?_
 refine Je Mt U (by rfl) (.tmp 19) (.tmp 21) (by rfl) (bb+1) (.slice ho (el s.bx k).length hc) (el s.bx k) (by rfl) (by rw[←hsl];exact FU.hnd.row k hk) (by omega) (some ⟨V.1.size,0,none⟩) [(t1,t2,t3)] 1 1 (by rfl) rfl (by simp) _ hN (by have:=Kl hk;simp;omega) ?_;intro v' w2 hO2 hB2 hG2 hw2;obtain⟨L,hL⟩:=nmd (el s.bx k++[(t1,t2,t3)]);rw[←hL]at hO2;have HL:=Zd hL;clear hL;obtain⟨vo,vc,hv',_,_⟩:=hO2.fresh;have hrow:∀b,(el xs k).ownBlock=some b→b<W.1.size:=fun b hb=>(Zj (h.hnd.row k hk) hb).2
 have hG3:U.grownBy w2 (el xs k).ownBlock:=by rw[hsl];exact hG2
 have hw3:∀g,v'.ownBlock=some g→(el xs k).ownBlock=some g∨U.1.size≤g:=by rw[hsl];exact hw2
 have kp:w2.heap[p]? = U.heap[p]? := hG3.block p (by omega) (fun e=>h.px k hk e.symm);have kb:w2.heap[bb]? = U.heap[bb]? := hG3.block bb (by omega) (fun e=>h.bbx hk e.symm);have kt:w2.heap[W.1.size]? = U.heap[W.1.size]? := hG3.block _ (by omega) (fun e=>by have:=hrow _ e.symm;omega);have U0:=hU0 rfl;refine hK.out _ _ (fun _=>⟨(World.cell?_of_block (a:=⟨p,5,none⟩) kp).trans U0.1,(World.cell?_of_block (a:=⟨bb,k,none⟩) kb).trans U0.2.1,(World.cell?_of_block (a:=⟨W.1.size,0,none⟩) kt).trans U0.2.2.1,(World.cell?_of_block (a:=⟨W.1.size,1,none⟩) kt).trans U0.2.2.2.1,(World.cell?_of_block (a:=⟨W.1.size,2,none⟩) kt).trans U0.2.2.2.2⟩) (fun hU2=>?_);have U2:=hU2 rfl;have fB:w2.frozen? ⟨bb,k,none⟩=false:=(World.frozen?_of_block (a:=⟨bb,k,none⟩) kb).trans (FU.head hk).2;have cB:=U2.2.1;clear hK K hU2 hU0;refine Zq 17 U2 ?_;refine Walks.on 18 fun K hK=>?_
 rw[hv'];go_simp;refine hK.out _ _ (fun h=>absurd h (by decide)) (fun _=>?_);refine Walks.done (by kernel_rfl) ?_ _;clear hK K;have hTS:=Jb (ls:=s.bx) (k:=k) L hk;have hLl:L.length=(el s.bx k).length+1:=by rw[HL.o];simp
 have BX2:Bx w2 p _:=FU.box.keep hG3.size kp;have BX3:=BX2.other (a:=⟨bb,k,none⟩) (fun e=>h.pbb e.symm) (.slice vo L.length vc);have c9:=BX3.c 9 rfl;have f9:=BX3.f 9 rfl;obtain⟨w3,h3⟩:=nmd (w2.setCell ⟨bb,k,none⟩ (.slice vo L.length vc));rw[←h3]at BX3 c9 f9 ⊢;have H3:=Zd h3;have HB3:=Zd BX3;have HTS:=Zd hTS;have HLl:=Zd hLl;clear h3 BX3 BX2 hTS hLl U2 cB fB U0;go_wp2_with fail;refine(add_any p 9 (Zs s.bx:Int) 1 (Zs s.bx+1:Int) w3 c9 f9 rfl (by omega) (by omega)).mono ?_;rintro e w4 ⟨rfl,h4⟩;have H4:=Zd h4;clear h4 c9 f9;go_wp2
 first|refine bodyPost_ret (results_none rfl _ _ _) rfl ?_|refine bodyPost_end (results_none rfl _ _ _) rfl ?_
 refine⟨⟨_,rfl⟩,?_⟩;rw[H4.o,←HL.o];have hT:(Zs (s.bx.set k L):Int)=Zs s.bx+1:=by have:=HTS.o;have:=HLl.o;omega
 have hpw:∀j,j<(s.bx.set k L).length→(el (xs.set k v') j).ownBlock≠some p:=fun j hj=>by
  rw[List.length_set]at hj
  by_cases e:j=k
  ·subst e;rw[Zh hxk];intro hb
   rcases hw3 p hb with h1|h1
   ·exact h.px j hk h1
   ·omega
  ·rw[Zm e];exact h.px j hj
 have hnd3:HandsT bb w3 (xs.set k v') (s.bx.set k L):=by rw[H3.o,←hv'];exact FU.hnd.put hk hO2 hG3 hw3
 have hnd4:HandsT bb (w3.setCell ⟨p,9,none⟩ (.int .i64 (Zs s.bx+1))) (xs.set k v') (s.bx.set k L):=hnd3.keep (Below.heap_setCell _ _ _ _ (fun e=>h.pbb e.symm)) (fun j hj b hb=>Below.heap_setCell _ _ _ _ (fun e=>hpw j hj (by have e':b=p:=e;rw[←e'];exact hb)));have hbx4:=HB3.o.set 9 (.int .i64 (Zs s.bx+1));have hsz:U.1.size≤w2.1.size:=hG3.size;have hkeep:∀b,b<U.1.size→b≠p→b≠bb→(el xs k).ownBlock≠some b→(w3.setCell ⟨p,9,none⟩ (.int .i64 (Zs s.bx+1))).heap[b]? = U.heap[b]? := fun b h1 h2 h3 h4=>by
  rw[Below.heap_setCell _ _ _ _ h2,H3.o,Below.heap_setCell _ _ _ _ h3];exact hG3.block b h1 (fun e=>h4 e.symm)
 refine⟨FO p bb (xs.set k v') ev fv uv,⟨bb,xs.set k v',ev,fv,uv,FU.turn ?_ hnd4 (fun b hb=>?_) hpw,fun b hb=>hb⟩,fun b hb=>?_,?_,fun b hb hO=>?_⟩
 ·rw[List.length_set,hT];exact hbx4
 ·obtain⟨a1,a2,a3,a4⟩:=FU.apart hb;exact hkeep b a1 a2 a3 (a4 k hk)
 ·rcases hb with hb|hb|⟨j,hj,hb⟩|hb|hb|hb
  ·exact .inl (.inl hb)
  ·exact .inl (.inr (.inl hb))
  ·rw[List.length_set]at hj
   by_cases e:j=k
   ·subst e;rw[Zh hxk]at hb
    rcases hw3 b hb with h1|h1
    ·exact .inl (.inr (.inr (.inl ⟨j,hj,h1⟩)))
    ·exact .inr (by omega)
   ·rw[Zm e]at hb;exact .inl (.inr (.inr (.inl ⟨j,hj,hb⟩)))
  ·exact .inl (.inr (.inr (.inr (.inl hb))))
  ·exact .inl (.inr (.inr (.inr (.inr (.inl hb)))))
  ·exact .inl (.inr (.inr (.inr (.inr (.inr hb)))))
 ·rw[H3.o];have hW:Below lo W U:=(HB0.o.mono (Nat.le_trans h.lop (by omega))).trans (hbU.mono (by have:=h.lop;omega));exact((hW.trans (hB2.mono (by have:=h.lob;omega))).setCell (p:=⟨bb,k,none⟩) h.lob _).setCell (p:=⟨p,9,none⟩) h.lop _
 ·have hW:U.heap[b]? = W.heap[b]? := (hbU.block b (by omega)).trans (HB0.o.block b hb);rw[←hW];exact hkeep b (by omega) (fun e=>hO (.inl e)) (fun e=>hO (.inr (.inl e))) (fun e=>hO (.inr (.inr (.inl ⟨k,hxk,e⟩))))
end
end Go.Proofs.YtdacedbfnlkghaaGreatDoor