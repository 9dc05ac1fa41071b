/- The order of a graph: the program's loop. What is wrong with a graph: the program. Rows of tokens, of outs, of losts: sizes, copies, comparisons. Rows of rows of tokens: sizes, copies, comparisons. Hands: rows of tokens of their own behind one row of heads. No conditions but those written. -/
import Derived.Test.YtdacedbfnlkghaaGreatDoorURuOr
namespace Go.Proofs.YtdacedbfnlkghaaGreatDoor
set_option maxHeartbeats 8000000
set_option maxRecDepth 10000
open Go.RowKit Go.Proofs.Tryz
def lenOf:Value→Nat| .slice _ n _=>n|_=>0
theorem in_grown{W W':World}{ro:Option Nat}{lo:Option Addr}{l:List Int}(hG:W.grownBy W' ro)(hz:kI.In W.1.size W lo l)(hs:0<l.length→∀b off,lo=some ⟨b,off,none⟩→ro≠some b):kI.In W'.1.size W' lo l:=by
 rcases Nat.eq_zero_or_pos l.length with h0|h0
 ·exact .inl (List.length_eq_zero_iff.1 h0)
 rcases hz with h|⟨b,off,e,hb,hc⟩
 ·exact .inl h
 ·exact .inr ⟨b,off,e,Nat.lt_of_lt_of_le hb hG.size,fun j hj i hi=>(World.cell?_of_block (a:=⟨b,off+j*kI.sz+i,none⟩) (hG.block b hb (Ne.symm (hs h0 b off e)))).trans (hc j hj i hi)⟩
theorem Dk(gs:List PNode):∀(n:Nat)(o l:List Int),(Qb gs n o l).1.length≤o.length+n
 |0,o,l=>Nat.le_refl _
 |n+1,o,l=>by
  rw[Qb]
  cases l.findIdx? (fun b => !Hf gs l b)with
  |none=>simp
  |some k =>
   have:=Dk gs n (o++[el l k]) (l.take k++l.drop (k+1));simp only[List.length_append,List.length_singleton]at this ⊢
   omega
theorem own_lt{lo:Nat}{W:World}{v:Value}{xs:List Int}(h:kI.Own lo W v xs){g:Nat}(hg:v.ownBlock=some g):g<W.1.size:=by
 rcases h.2 with⟨e,_⟩|⟨g',cap',cur,e,hb,hh,r⟩
 ·rw[e]at hg;simp[Value.ownBlock]at hg
 ·rw[e]at hg
  simp[Value.ownBlock]at hg
  subst hg;exact(Array.getElem?_eq_some_iff.1 hh).1
theorem Uu{lo:Nat}{W:World}{v:Value}{xs:List Int}(h:kI.Own lo W v xs):∃go qc,v=.slice go xs.length qc:=by
 obtain⟨go,qc,e,_⟩:=h.fresh;exact⟨go,qc,e⟩
theorem Fw(pg:Nat)(ao:Option Addr)(cap:Nat)(ts:List LNode)(zo:Option Addr)(zc:Nat)(zs:List Int)(w:World)(hl:zs.length≤1048576)(hv:∀x∈zs,∃k:Nat,k<ts.length∧x=(k:Int))(hF:FitN ts)(hG:GrIn w pg ao cap ts)(hz:kI.In w.1.size w zo zs)(R:List Int)(hR:(Qb (ts.map Zz) zs.length [] zs).1=R) :
  Calls prog 205 #[.slice zo zs.length zc,.func (.func 206) #[] #[.pointer (some ⟨pg,0,none⟩)]] w fun e w'=>AnsI w R e w':=by
 obtain⟨V,hV⟩:=nmd ((w.alloc (.cells #[.func (.func 206) #[] #[.pointer (some ⟨pg,0,none⟩)]] 243)).alloc (.cells #[.slice zo zs.length zc] 25));have hb:Below w.1.size w V:=by rw[hV];exact Qf _ _ _
 have hX:Bx V w.1.size [.func (.func 206) #[] #[.pointer (some ⟨pg,0,none⟩)]]:=by rw[hV];exact(Bx.new [.func (.func 206) #[] #[.pointer (some ⟨pg,0,none⟩)]] _ rfl).alloc _
 have hY:Bx V (w.1.size+1) [.slice zo zs.length zc]:=by rw[hV];exact Bx.new [.slice zo zs.length zc] _ (by simp)
 have hs:V.1.size=w.1.size+1+1:=by rw[hV];simp
 have HV:=Zd hV;have HX:=Zd hX;have HY:=Zd hY;have HG:=Zd hG;have HZ:=Zd (hz.later hb);have HVV:=Zd hv;have HR:=Zd hR;have HS:=Zd hs;have HB:=Zd hb;have HZ0:=Zd hz;clear hV hX hY hG hz hv hR hs hb;go_enter func205,ntmps205;go_wp2;rw[←HV.o]
 go_loopw [5] (fun u wr=>∃(v:Value)(o l:List Int)(qo:Option Addr)(qc:Nat),v=u∧o.length+l.length=zs.length∧Zi (kI.Own (w.1.size+1+1) wr v o)∧Zi (Bx wr w.1.size [.func (.func 206) #[] #[.pointer (some ⟨pg,0,none⟩)]])∧Zi (Bx wr (w.1.size+1) [.slice qo l.length qc])∧Zi (kI.In wr.1.size wr qo l)∧Zi (∀x∈l,∃k:Nat,k<ts.length∧x=(k:Int))∧Zi ((Qb (ts.map Zz) l.length o l).1=R)∧Zi (0<l.length→∀b off,qo=some ⟨b,off,none⟩→v.ownBlock≠some b)∧Below w.1.size w wr∧w.1.size+1+1≤wr.1.size) (fun u _=>zs.length-lenOf u)
 case atStart=>exact⟨.slice none 0 0,[],zs,zo,zc,rfl,by simp,Kind.Own.nil _ _ _,HX,HY,HZ,HVV,HR,fun _ b off _ h=>by simp[Value.ownBlock]at h,HB.o,by have:=HS.o;omega⟩
 case round =>
  obtain⟨v,o,l,qo,qc,rfl,hol,hO,hX,hY,hZ,hV',hR',hSp,hB,hsz⟩:=hrel;clear HX HY HZ HVV HR HS HB HV;obtain⟨go,gc,rfl⟩:=Uu hO.o;have hG:=Zd (HG.o.later hB);have hcon:=Wp 232 #[.pointer (some ⟨w.1.size+1,0,none⟩),.pointer (some ⟨w.1.size,0,none⟩)] Tryz.entersB1 qo qc l (fun b => !Hf (ts.map Zz) l b) wr (by omega) hZ.o (fun x W _ hW=>behind1_is pg w.1.size (w.1.size+1) ao cap ts qo qc l x W (by omega) hV'.o hF (hG.o.later hW) (hX.o.later hW) (hY.o.later hW) (hZ.o.later hW));have y0:=hY.o.c 0 rfl
  cases hp:l.findIdx? (fun b => !Hf (ts.map Zz) l b)with
  |none =>
   have hf:fidx (fun b => !Hf (ts.map Zz) l b) l = -1:=by rw[fidx,hp]
   rw[hf]at hcon;have HE:Zi (o=R):=by
    rw[Zi,←hR'.o]
    cases l with
    |nil=>rfl
    |cons x r=>rw[List.length_cons,Qb,hp]
   clear hp hf;go_wp2_with (go_at_call 95;refine hcon.mono ?_;rintro e w1 ⟨rfl,hb1⟩;have hB1:Below w.1.size w w1:=hB.trans (hb1.mono hB.size);have O1:=Zd (hO.o.below hb1);clear hb1);go_ret;obtain⟨go',gc',e1,_,hFF⟩:=O1.o.fresh;obtain⟨rfl,rfl⟩:go=go'∧gc=gc':=by simp at e1;exact e1
   rw[←HE.o];exact⟨⟨go,gc,rfl,hFF.wide (by omega) (Nat.le_refl _)⟩,hB1⟩
  |some k =>
   have hkl:k<l.length:=by
    rw[List.findIdx?_eq_some_iff_getElem]at hp;exact hp.1
   have hf:fidx (fun b => !Hf (ts.map Zz) l b) l=(k:Int):=by rw[fidx,hp]
   rw[hf]at hcon;have HE:Zi ((Qb (ts.map Zz) (l.take k++l.drop (k+1)).length (o++[el l k]) (l.take k++l.drop (k+1))).1=R):=by
    rw[Zi,←hR'.o];have e1:(l.take k++l.drop (k+1)).length=l.length-1:=by simp;omega
    obtain⟨m,hm⟩:∃m,l.length=m+1:=⟨l.length-1,by omega⟩;rw[e1,hm,Nat.add_sub_cancel,Qb,hp]
   clear hp hf;obtain⟨bq,oq,rfl,hbq,hcq⟩:=Zo hZ.o hkl;have cq:=hcq k hkl;obtain⟨x,hx⟩:=nmd (el l k);rw[←hx]at cq;have HX2:=Zd hx;clear hx hcq;have hkl':(k:Int)<(l.length:Int):=by omega
   obtain⟨l2,hl2⟩:=nmd (l.take k++l.drop (k+1));obtain⟨o2,ho2⟩:=nmd (o++[x]);have hlen2:o2.length+l2.length=zs.length:=by rw[hl2,ho2];simp;omega
   have hleno:o2.length=o.length+1:=by rw[ho2];simp
   have HLO:=Zd (And.intro hlen2 hleno);rw[←hl2,←HX2.o,←ho2]at HE;have HL2:=Zd hl2;have HO2:=Zd ho2;clear hl2 ho2 hlen2 hleno;go_wp2_with (first
    |(go_at_call 95;refine hcon.mono ?_;rintro e w1 ⟨rfl,hb1⟩;have hB1:Below w.1.size w w1:=hB.trans (hb1.mono hB.size);have hs1:wr.1.size≤w1.1.size:=hb1.size;have O1:Zi (kI.Own (w.1.size+1+1) (w1.alloc (.cells #[.int .i64 x] 3)) (.slice go o.length gc) o):=((hO.o.below hb1).below (Zk _ _));have X1:=Zd ((hX.o.later hb1).later (Zk w1 (.cells #[.int .i64 x] 3)));have Y1:=Zd ((hY.o.later hb1).later (Zk w1 (.cells #[.int .i64 x] 3)));have Z1:=Zd ((hZ.o.later hb1).later (Zk w1 (.cells #[.int .i64 x] 3)));have HN:Zi (kI.In (w1.1.size+1) (w1.alloc (.cells #[.int .i64 x] 3)) (some ⟨w1.1.size,0,none⟩) [x]):=Kc (by omega) (by simp);have y1:=(hY.o.later hb1).c 0 rfl;have c1:=(hb1.cell (p:=⟨bq,oq+k,none⟩) hbq).trans cq;clear hb1 y0 cq)
    |(at_builtin;refine Kq Vq (w1.alloc (.cells #[.int .i64 x] 3)) rfl (.tmp 15) (.tmp 20) rfl (w.1.size+1+1) (.slice go o.length gc) o rfl O1.o (by simp;omega) (some ⟨w1.1.size,0,none⟩) [x] 1 1 rfl rfl (by simp) _ HN.o (by simp;omega) ?_;intro v2 w2 hO2 hB2 hG2 hw2;rw[←HO2.o]at hO2;obtain⟨g2,c2,rfl⟩:=Uu hO2;have hBa:Below w.1.size w w2:=(Zx hB1 _).trans (hB2.mono (by omega));have O2:=Zd hO2;have X2:=Zd (X1.o.below hB2 (by omega));have Y2:=Zd (Y1.o.below hB2 (by omega));have Z2:=Zd (in_grown hG2 Z1.o hSp.o);have y2:=Y2.o.c 0 rfl;have hs2:w1.1.size+1≤w2.1.size:=(by have:=hB2.size;simpa using this);clear hO2 hB2 hG2 hw2))
   refine(queueOfI_any (some ⟨bq,oq,none⟩) qc l w2 (by omega) Z2.o).mono ?_;rintro e w3 ⟨⟨t3,rfl,hF3⟩,hb3⟩;have hB3:=hBa.trans (hb3.mono hBa.size);have O3:=Zd (O2.o.below hb3);have X3:=Zd (X2.o.later hb3);have Y3:=Zd (Y2.o.later hb3);have hs3:=hb3.size;have F3:=Zd hF3;clear hb3 hF3 y2;go_wp2_with fail;refine(withoutI_any t3 l.length l (k:Int) w3 (by omega) F3.o.in l2 (by rw[HL2.o];exact(keepE_range l k hkl).symm)).mono ?_;rintro e w4 ⟨⟨g4,c4,rfl,hF4⟩,hb4⟩;have hB4:=hB3.trans (hb4.mono hB3.size);have O4:=Zd (O3.o.below hb4);have X4:=Zd (X3.o.later hb4);have Y4:=Zd (Y3.o.later hb4);have hs4:=hb4.size;have F4:=Zd hF4;obtain⟨y4,yf4,_⟩:=Y4.o.x1;have hol2:=own_lt (g:=bq) O2.o;clear hb4 hF4;have O5:=Zd (O4.o.setBelow (a:=⟨w.1.size+1,0,none⟩) (by simp) (.slice g4 l2.length c4));have X5:=Zd (X4.o.other (a:=⟨w.1.size+1,0,none⟩) (by simp) (.slice g4 l2.length c4));have Y5:=Zd (Y4.o.set 0 (.slice g4 l2.length c4));have Z5:=Zd ((F4.o.setBelow (a:=⟨w.1.size+1,0,none⟩) (by simp only;omega) (.slice g4 l2.length c4)).in);have V5:Zi (∀x∈l2,∃k:Nat,k<ts.length∧x=(k:Int)):=fun y hy=>hV'.o y (by
    rw[HL2.o]at hy
    rcases List.mem_append.1 hy with h|h
    ·exact List.mem_of_mem_take h
    ·exact List.mem_of_mem_drop h)
   have S5:Zi (0<l2.length→∀b off,g4=some ⟨b,off,none⟩→Value.ownBlock (.slice g2 o2.length c2)≠some b):=fun h0 b off e h=>by
    have h1:=own_lt O3.o h
    rcases F4.o with h2|⟨g5,e5,_,ho5⟩
    ·rw[h2]at h0;simp at h0
    ·rw[e]at e5
     simp at e5
     have h3:=(Jt ho5).1
     omega
   have B5:Below w.1.size w (w4.setCell ⟨w.1.size+1,0,none⟩ (.slice g4 l2.length c4)):=hB4.setCell (p:=⟨w.1.size+1,0,none⟩) (by simp) _;clear HZ0;go_wp2;rename_i _ _ hKK;refine hKK _ _ ?_;go_wp2;go_roundw
   case rel=>exact⟨_,o2,l2,g4,c4,rfl,HLO.o.1,O5,X5,Y5,Z5,V5,HE,S5,B5,by simp[World.setCell];omega⟩
   case measure=>have:=HLO.o;simp[lenOf];omega
def Zv(gs:List PNode):List Int:=(Qb gs gs.length [] (Qh gs.length)).1
theorem Yo(ao:Option Addr)(cap:Nat)(ts:List LNode)(w:World)(hl:ts.length≤1048576)(hF:FitN ts)(hz:DIn Ja w.1.size w ao ts) :
  Calls prog 166 #[.slice ao ts.length cap] w fun e w'=>AnsI w (Zv (ts.map Zz)) e w':=by
 obtain⟨V,hV⟩:=nmd (w.alloc (.cells #[.slice ao ts.length cap] 39));have hb:Below w.1.size w V:=by rw[hV];exact Zk _ _
 have hX:Bx V w.1.size [.slice ao ts.length cap]:=by rw[hV];exact Bx.new [.slice ao ts.length cap] _ rfl
 have HG:Zi (GrIn V w.1.size ao cap ts):=⟨hX,hz.later Zf hb⟩;have HV:=Zd hV;have HB:=Zd hb;clear hV hX hz hb;go_enter func166,ntmps166;go_wp2_with fail;rw[←HV.o];refine(Vr ao cap ts.length V hl).mono ?_;rintro e w1 ⟨⟨go,qc,rfl,hF1⟩,hb1⟩;have hB1:Below w.1.size w w1:=HB.o.trans (hb1.mono HB.o.size);have G1:=Zd (HG.o.later hb1);have F1:=Zd hF1;clear hb1 hF1;go_wp2_with fail;refine(Fw w.1.size ao cap ts go qc (Qh ts.length) w1 (by rw[Qd];exact hl) (fun x hx=>Xd hx) hF G1.o F1.o.in (Zv (ts.map Zz)) (by rw[Zv,Qd,List.length_map])).mono ?_;rintro e w2 ⟨⟨g2,c2,rfl,hF2⟩,hb2⟩;have hB2:=hB1.trans (hb2.mono hB1.size);have F2:=Zd (hF2.wide (lo':=w.1.size) (hi':=w2.1.size) hB1.size (Nat.le_refl _));clear hb2 hF2;go_wp2;go_ret;exact⟨⟨_,_,rfl,F2.o⟩,hB2⟩
abbrev errV(a:Addr):Value:=.iface 227 (.pointer (some a))
def gbl(i:Nat):Nat :=
 match i with
 |0=>6
 |1=>7
 |2=>8
 |3=>9
 |4=>10
 |5=>11
 |_=>12
theorem gbl_lt(i:Nat):gbl i<13:=by unfold gbl;split <;> decide
structure Errs(W:World)(ea:Nat→Addr):Prop where
 cell:∀i,i<7→W.cell? ⟨gbl i,0,none⟩=some (errV (ea i))
 size:13≤W.1.size
theorem Errs.below{n:Nat}{W W':World}{ea:Nat→Addr}(h:Errs W ea)(hb:Below n W W')(hn:13≤n):Errs W' ea :=
 ⟨fun i hi=>(hb.cell (p:=⟨gbl i,0,none⟩) (Nat.lt_of_lt_of_le (gbl_lt i) hn)).trans (h.cell i hi),Nat.le_trans h.size hb.size⟩
theorem Errs.later{W W':World}{ea:Nat→Addr}(h:Errs W ea)(hb:Below W.1.size W W'):Errs W' ea:=h.below hb h.size
theorem Errs.c0{W:World}{ea:Nat→Addr}(h:Errs W ea):W.cell? ⟨6,0,none⟩=some (errV (ea 0)):=h.cell 0 (by omega)
theorem Errs.c1{W:World}{ea:Nat→Addr}(h:Errs W ea):W.cell? ⟨7,0,none⟩=some (errV (ea 1)):=h.cell 1 (by omega)
theorem Errs.c2{W:World}{ea:Nat→Addr}(h:Errs W ea):W.cell? ⟨8,0,none⟩=some (errV (ea 2)):=h.cell 2 (by omega)
theorem Errs.c3{W:World}{ea:Nat→Addr}(h:Errs W ea):W.cell? ⟨9,0,none⟩=some (errV (ea 3)):=h.cell 3 (by omega)
theorem Errs.c4{W:World}{ea:Nat→Addr}(h:Errs W ea):W.cell? ⟨10,0,none⟩=some (errV (ea 4)):=h.cell 4 (by omega)
theorem Errs.c5{W:World}{ea:Nat→Addr}(h:Errs W ea):W.cell? ⟨11,0,none⟩=some (errV (ea 5)):=h.cell 5 (by omega)
theorem Errs.c6{W:World}{ea:Nat→Addr}(h:Errs W ea):W.cell? ⟨12,0,none⟩=some (errV (ea 6)):=h.cell 6 (by omega)
def Kn(gs:List PNode)(i:Nat)(x:Int):Bool :=
 match i with
 |0 => !Yv (el gs x.toNat).1
 |1=>(gs.take x.toNat).any fun y=>Ls y.1 (el gs x.toNat).1
 |2 => !Zg (el gs x.toNat).2.1 (el gs x.toNat).2.2.1 (el gs x.toNat).2.2.2.1
 |3=>decide ((el gs x.toNat).2.2.2.2.1<3)||decide (8<(el gs x.toNat).2.2.2.2.1)
 |_ => !Vm (el gs x.toNat).2.2.2.2.2 gs.length
def fno(i:Nat):Nat :=
 match i with
 |0=>225
 |1=>226
 |2=>228
 |3=>229
 |_=>230
theorem fno_enters(i:Nat):∀args w,(callFunc (fno i) args).run prog w=.ok (.enter (fno i) args) w:=by
 unfold fno
 split
 ·exact enters_of func225 (by kernel_rfl) rfl
 ·exact enters_of func226 (by kernel_rfl) rfl
 ·exact enters_of func228 (by kernel_rfl) rfl
 ·exact enters_of func229 (by kernel_rfl) rfl
 ·exact enters_of func230 (by kernel_rfl) rfl
structure Roomy(ts:List LNode)(cap:Nat):Prop where
 row:ts.length≤cap
 next:CapN ts
 fit:FitN ts
 len:ts.length≤1048576
theorem rule_is(i p:Nat)(ao:Option Addr)(cap:Nat)(ts:List LNode)(k:Nat)(w:World)(hk:k<ts.length)(hC:Roomy ts cap)(hG:GrIn w p ao cap ts) :
  Calls prog (fno i) #[.int .i64 (k:Int),.pointer (some ⟨p,0,none⟩)] w fun e w'=>e=.returned (.bool (Kn (ts.map Zz) i (k:Int)))∧Below w.1.size w w':=by
 have e:((k:Int)).toNat=k:=Int.toNat_natCast k
 unfold fno Kn
 rw[e]
 split
 ·exact rule1_is p ao cap ts k w hk hC.len hC.fit hG
 ·exact rule2_is p ao cap ts k w hk hC.len hC.fit hG hC.row
 ·exact rule3_is p ao cap ts k w hk hC.len hC.fit hG
 ·exact rule4_is p ao cap ts k w hk hC.len hC.fit hG
 ·exact rule5_is p ao cap ts k w hk hC.len hC.fit hG hC.next
theorem Lu(i p:Nat)(ao:Option Addr)(cap:Nat)(ts:List LNode)(zo:Option Addr)(zc:Nat)(w:World)(hC:Roomy ts cap)(hG:GrIn w p ao cap ts)(hz:kI.In w.1.size w zo (Qh ts.length)) :
  Calls prog 95 #[.slice zo ts.length zc,.func (.func (fno i)) #[] #[.pointer (some ⟨p,0,none⟩)]] w fun e w'=>e=.returned (.int .i64 (fidx (Kn (ts.map Zz) i) (Qh ts.length)))∧Below w.1.size w w':=by
 have h:=Wp (fno i) #[.pointer (some ⟨p,0,none⟩)] (fno_enters i) zo zc (Qh ts.length) (Kn (ts.map Zz) i) w (by rw[Qd];exact hC.len) hz (fun x W hx hW=>by
  obtain⟨k,hk,rfl⟩:=Xd hx;exact rule_is i p ao cap ts k W hk hC (hG.later hW))
 rw[Qd]at h;exact h
def Lt(ea:Nat→Addr)(p:Nat):List Value:=[errV (ea 1),.func (.func (fno 0)) #[] #[.pointer (some ⟨p,0,none⟩)],errV (ea 2),.func (.func (fno 1)) #[] #[.pointer (some ⟨p,0,none⟩)],errV (ea 3),.func (.func (fno 2)) #[] #[.pointer (some ⟨p,0,none⟩)],errV (ea 4),.func (.func (fno 3)) #[] #[.pointer (some ⟨p,0,none⟩)],errV (ea 5),.func (.func (fno 4)) #[] #[.pointer (some ⟨p,0,none⟩)]]
theorem rulesOf_any(ao:Option Addr)(cap:Nat)(ts:List LNode)(ea:Nat→Addr)(w:World)(hE:Errs w ea)(hz:DIn Ja w.1.size w ao ts) :
  Calls prog 204 #[.slice ao ts.length cap] w fun e w'=>∃rb p,e=.returned (.slice (some ⟨rb,0,none⟩) 5 5)∧Bx w' rb (Lt ea p)∧GrIn w' p ao cap ts∧Below w.1.size w w':=by
 obtain⟨V,hV⟩:=nmd (w.alloc (.cells #[.slice ao ts.length cap] 39));have hb:Below w.1.size w V:=by rw[hV];exact Zk _ _
 have hX:Bx V w.1.size [.slice ao ts.length cap]:=by rw[hV];exact Bx.new [.slice ao ts.length cap] _ rfl
 obtain⟨U,hU⟩:=nmd (V.alloc (.cells (Lt ea w.1.size).toArray 239));have hb2:Below V.1.size V U:=by rw[hU];exact Zk _ _
 have hR:Bx U V.1.size (Lt ea w.1.size):=by rw[hU];exact Bx.new (Lt ea w.1.size) _ rfl
 have hs:V.1.size=w.1.size+1:=by rw[hV];simp
 have HG:Zi (GrIn U w.1.size ao cap ts):=GrIn.later ⟨hX,hz.later Zf hb⟩ hb2;have HB:=Zd (hb.trans (hb2.mono hb.size));have HU:Zi (U=(w.alloc (.cells #[.slice ao ts.length cap] 39)).alloc (.cells (Lt ea w.1.size).toArray 239)):=by rw[Zi,hU,hV]
 have HR:=Zd hR;have e1:=hE.c1;have e2:=hE.c2;have e3:=hE.c3;have e4:=hE.c4;have e5:=hE.c5;have h7:=hE.size;have l1:7<w.1.size:=by omega
 have l2:8<w.1.size:=by omega
 have l3:9<w.1.size:=by omega
 have l4:10<w.1.size:=by omega
 have l5:11<w.1.size:=by omega
 have l6:12<w.1.size:=by omega
 rw[hs]at HR;simp only[errV]at e1 e2 e3 e4 e5;clear hU hV hR hX hz hb hb2 hs hE;go_enter func204,ntmps204;go_wp2;go_ret;refine⟨w.1.size+1,w.1.size,rfl,?_,?_,?_⟩
 ·have h:=HR.o;rw[HU.o]at h;exact h
 ·have h:=HG.o;rw[HU.o]at h;exact h
 ·have h:=HB.o;rw[HU.o]at h;exact h
def kTk:Kind (Int×Int×Int):=⟨163,135,3,fun t=>[.int .i64 t.1,.int .i64 t.2.1,.int .i64 t.2.2],fun _=>rfl,fun a v h=>by simp at h;rcases h with rfl|rfl|rfl <;> rfl⟩
theorem Tryz.info163:(prog.info? 163).map (fun i=>(i.zero,i.size,i.bytes))=some (some (.agg #[.int .i64 0,.int .i64 0,.int .i64 0]),3,24):=by kernel_rfl
theorem Mt:kTk.Ok:=Pd (K:=kTk) underlying135 Tryz.info163 rfl (by decide) (by decide)
theorem Ub{n:Nat}{W:World}{ao:Option Addr}{ts:List (Int×Int×Int)}(h:kTk.In n W ao ts){k:Nat}(hk:k<ts.length) :
  ∃b off,ao=some ⟨b,off,none⟩∧b<n∧∀j,j<ts.length→W.cell? ⟨b,off+j*3,none⟩=some (.int .i64 (el ts j).1)∧W.cell? ⟨b,off+j*3+1,none⟩=some (.int .i64 (el ts j).2.1)∧W.cell? ⟨b,off+j*3+2,none⟩=some (.int .i64 (el ts j).2.2):=by
 obtain⟨b,off,e,hb,hc⟩:=h.pos hk;exact⟨b,off,e,hb,fun j hj=>⟨hc j hj 0 (by decide),hc j hj 1 (by decide),hc j hj 2 (by decide)⟩⟩
theorem kTk_one{n:Nat}{W:World}{p:Nat}{t:Int×Int×Int}(hp:p<n)(h0:W.cell? ⟨p,0,none⟩=some (.int .i64 t.1))(h1:W.cell? ⟨p,1,none⟩=some (.int .i64 t.2.1))(h2:W.cell? ⟨p,2,none⟩=some (.int .i64 t.2.2)):kTk.In n W (some ⟨p,0,none⟩) [t]:=by
 refine Kind.In.mk1 hp fun i hi=>?_
 rw[Nat.zero_add];have hi':i<3:=hi
 rcases(show i=0∨i=1∨i=2 from by omega)with rfl|rfl|rfl
 ·exact h0
 ·exact h1
 ·exact h2
theorem eqToken_same(x1:Int)(x2:Int)(x3:Int)(w:World) :
  Calls prog 113 #[.agg #[.int .i64 x1,.int .i64 x2,.int .i64 x3],.agg #[.int .i64 x1,.int .i64 x2,.int .i64 x3]] w fun e w'=>e=.returned (.bool true)∧Below w.1.size w w':=by
 have h1:(x1 != x1)=false:=by simp
 have h2:(x2 != x2)=false:=by simp
 have h3:(x3 != x3)=false:=by simp
 go_enter func113,ntmps113;go_wp2;go_ret;exact⟨rfl,Qf _ _ _⟩
theorem eqTokenS_same(ao bo:Option Addr)(cap cap':Nat)(ts:List (Int×Int×Int))(w:World)(hl:ts.length≤1048576)(hz:kTk.In w.1.size w ao ts)(hz':kTk.In w.1.size w bo ts) :
  Calls prog 88 #[.slice ao ts.length cap,.slice bo ts.length cap'] w fun e w'=>e=.returned (.bool true)∧Below w.1.size w w':=by
 have hne:((ts.length:Int) != (ts.length:Int))=false:=by simp
 go_enter func88,ntmps88;go_wp2
 go_loopw [5] (fun i wr=>∃k:Nat,k≤ts.length∧i=.int .i64 k∧Below w.1.size w wr) (fun i _=>ts.length-(intOf i).toNat)
 case atStart=>exact⟨0,Nat.zero_le _,rfl,Below.refl _ _⟩
 case round =>
  obtain⟨k,hk,rfl,hnx⟩:=hrel
  by_cases hlt:k<ts.length
  ·obtain⟨b,off,rfl,hb,hc⟩:=Ub hz hlt;obtain⟨b',off',rfl,hb',hc'⟩:=Ub hz' hlt;have hck1:=(hnx.cell (p:=⟨b,off+k*3,none⟩) hb).trans (hc k hlt).1;have hck1':=(hnx.cell (p:=⟨b',off'+k*3,none⟩) hb').trans (hc' k hlt).1;have hck2:=(hnx.cell (p:=⟨b,off+k*3+1,none⟩) hb).trans (hc k hlt).2.1;have hck2':=(hnx.cell (p:=⟨b',off'+k*3+1,none⟩) hb').trans (hc' k hlt).2.1;have hck3:=(hnx.cell (p:=⟨b,off+k*3+2,none⟩) hb).trans (hc k hlt).2.2;have hck3':=(hnx.cell (p:=⟨b',off'+k*3+2,none⟩) hb').trans (hc' k hlt).2.2;clear hc hz hc' hz';obtain⟨⟨x1,x2,x3⟩,ex⟩:∃v,v=el ts k:=⟨_,rfl⟩;rw[←ex]at hck1 hck1' hck2 hck2' hck3 hck3';clear ex;dsimp only at hck1 hck1' hck2 hck2' hck3 hck3';go_wp2
   go_region_with (go_at_call 113;refine(eqToken_same x1 x2 x3 _).mono ?_;rintro e w1 ⟨rfl,hb1⟩)
   all_goals go_wp2
   all_goals
    have hb2:Below wr.drew.heap.size wr.drew w1:=by assumption
    have hnb:Below w.1.size w w1:=hnx.drew.trans (hb2.mono hnx.size);go_roundw
    case rel=>exact⟨k+1,by omega,by go_num,hnb⟩
    case measure=>simp[intOf];omega
  ·obtain rfl:k=ts.length:=by omega
   go_wp2;go_ret;exact⟨rfl,hnx⟩
def kOu:Kind (Int×Int×Int):=⟨138,45,3,fun t=>[.int .i64 t.1,.int .i64 t.2.1,.int .i64 t.2.2],fun _=>rfl,fun a v h=>by simp at h;rcases h with rfl|rfl|rfl <;> rfl⟩
theorem Tryz.info138:(prog.info? 138).map (fun i=>(i.zero,i.size,i.bytes))=some (some (.agg #[.int .i64 0,.int .i64 0,.int .i64 0]),3,24):=by kernel_rfl
theorem kOu_ok:kOu.Ok:=Pd (K:=kOu) underlying45 Tryz.info138 rfl (by decide) (by decide)
theorem kOu_at{n:Nat}{W:World}{ao:Option Addr}{ts:List (Int×Int×Int)}(h:kOu.In n W ao ts){k:Nat}(hk:k<ts.length) :
  ∃b off,ao=some ⟨b,off,none⟩∧b<n∧∀j,j<ts.length→W.cell? ⟨b,off+j*3,none⟩=some (.int .i64 (el ts j).1)∧W.cell? ⟨b,off+j*3+1,none⟩=some (.int .i64 (el ts j).2.1)∧W.cell? ⟨b,off+j*3+2,none⟩=some (.int .i64 (el ts j).2.2):=by
 obtain⟨b,off,e,hb,hc⟩:=h.pos hk;exact⟨b,off,e,hb,fun j hj=>⟨hc j hj 0 (by decide),hc j hj 1 (by decide),hc j hj 2 (by decide)⟩⟩
theorem kOu_one{n:Nat}{W:World}{p:Nat}{t:Int×Int×Int}(hp:p<n)(h0:W.cell? ⟨p,0,none⟩=some (.int .i64 t.1))(h1:W.cell? ⟨p,1,none⟩=some (.int .i64 t.2.1))(h2:W.cell? ⟨p,2,none⟩=some (.int .i64 t.2.2)):kOu.In n W (some ⟨p,0,none⟩) [t]:=by
 refine Kind.In.mk1 hp fun i hi=>?_
 rw[Nat.zero_add];have hi':i<3:=hi
 rcases(show i=0∨i=1∨i=2 from by omega)with rfl|rfl|rfl
 ·exact h0
 ·exact h1
 ·exact h2
theorem eqOut_same(x1:Int)(x2:Int)(x3:Int)(w:World) :
  Calls prog 89 #[.agg #[.int .i64 x1,.int .i64 x2,.int .i64 x3],.agg #[.int .i64 x1,.int .i64 x2,.int .i64 x3]] w fun e w'=>e=.returned (.bool true)∧Below w.1.size w w':=by
 have h1:(x1 != x1)=false:=by simp
 have h2:(x2 != x2)=false:=by simp
 have h3:(x3 != x3)=false:=by simp
 go_enter func89,ntmps89;go_wp2;go_ret;exact⟨rfl,Qf _ _ _⟩
theorem eqOutS_same(ao bo:Option Addr)(cap cap':Nat)(ts:List (Int×Int×Int))(w:World)(hl:ts.length≤1048576)(hz:kOu.In w.1.size w ao ts)(hz':kOu.In w.1.size w bo ts) :
  Calls prog 50 #[.slice ao ts.length cap,.slice bo ts.length cap'] w fun e w'=>e=.returned (.bool true)∧Below w.1.size w w':=by
 have hne:((ts.length:Int) != (ts.length:Int))=false:=by simp
 go_enter func50,ntmps50;go_wp2
 go_loopw [5] (fun i wr=>∃k:Nat,k≤ts.length∧i=.int .i64 k∧Below w.1.size w wr) (fun i _=>ts.length-(intOf i).toNat)
 case atStart=>exact⟨0,Nat.zero_le _,rfl,Below.refl _ _⟩
 case round =>
  obtain⟨k,hk,rfl,hnx⟩:=hrel
  by_cases hlt:k<ts.length
  ·obtain⟨b,off,rfl,hb,hc⟩:=kOu_at hz hlt;obtain⟨b',off',rfl,hb',hc'⟩:=kOu_at hz' hlt;have hck1:=(hnx.cell (p:=⟨b,off+k*3,none⟩) hb).trans (hc k hlt).1;have hck1':=(hnx.cell (p:=⟨b',off'+k*3,none⟩) hb').trans (hc' k hlt).1;have hck2:=(hnx.cell (p:=⟨b,off+k*3+1,none⟩) hb).trans (hc k hlt).2.1;have hck2':=(hnx.cell (p:=⟨b',off'+k*3+1,none⟩) hb').trans (hc' k hlt).2.1;have hck3:=(hnx.cell (p:=⟨b,off+k*3+2,none⟩) hb).trans (hc k hlt).2.2;have hck3':=(hnx.cell (p:=⟨b',off'+k*3+2,none⟩) hb').trans (hc' k hlt).2.2;clear hc hz hc' hz';obtain⟨⟨x1,x2,x3⟩,ex⟩:∃v,v=el ts k:=⟨_,rfl⟩;rw[←ex]at hck1 hck1' hck2 hck2' hck3 hck3';clear ex;dsimp only at hck1 hck1' hck2 hck2' hck3 hck3';go_wp2
   go_region_with (go_at_call 89;refine(eqOut_same x1 x2 x3 _).mono ?_;rintro e w1 ⟨rfl,hb1⟩)
   all_goals go_wp2
   all_goals
    have hb2:Below wr.drew.heap.size wr.drew w1:=by assumption
    have hnb:Below w.1.size w w1:=hnx.drew.trans (hb2.mono hnx.size);go_roundw
    case rel=>exact⟨k+1,by omega,by go_num,hnb⟩
    case measure=>simp[intOf];omega
  ·obtain rfl:k=ts.length:=by omega
   go_wp2;go_ret;exact⟨rfl,hnx⟩
def kLo:Kind (Int×Int×Int×Int):=⟨141,46,4,fun t=>[.int .i64 t.1,.int .i64 t.2.1,.int .i64 t.2.2.1,.int .i64 t.2.2.2],fun _=>rfl,fun a v h=>by simp at h;rcases h with rfl|rfl|rfl|rfl <;> rfl⟩
theorem Tryz.info141:(prog.info? 141).map (fun i=>(i.zero,i.size,i.bytes))=some (some (.agg #[.int .i64 0,.int .i64 0,.int .i64 0,.int .i64 0]),4,32):=by kernel_rfl
theorem kLo_ok:kLo.Ok:=Pd (K:=kLo) underlying46 Tryz.info141 rfl (by decide) (by decide)
theorem kLo_at{n:Nat}{W:World}{ao:Option Addr}{ts:List (Int×Int×Int×Int)}(h:kLo.In n W ao ts){k:Nat}(hk:k<ts.length) :
  ∃b off,ao=some ⟨b,off,none⟩∧b<n∧∀j,j<ts.length→W.cell? ⟨b,off+j*4,none⟩=some (.int .i64 (el ts j).1)∧W.cell? ⟨b,off+j*4+1,none⟩=some (.int .i64 (el ts j).2.1)∧W.cell? ⟨b,off+j*4+2,none⟩=some (.int .i64 (el ts j).2.2.1)∧W.cell? ⟨b,off+j*4+3,none⟩=some (.int .i64 (el ts j).2.2.2):=by
 obtain⟨b,off,e,hb,hc⟩:=h.pos hk;exact⟨b,off,e,hb,fun j hj=>⟨hc j hj 0 (by decide),hc j hj 1 (by decide),hc j hj 2 (by decide),hc j hj 3 (by decide)⟩⟩
theorem kLo_one{n:Nat}{W:World}{p:Nat}{t:Int×Int×Int×Int}(hp:p<n)(h0:W.cell? ⟨p,0,none⟩=some (.int .i64 t.1))(h1:W.cell? ⟨p,1,none⟩=some (.int .i64 t.2.1))(h2:W.cell? ⟨p,2,none⟩=some (.int .i64 t.2.2.1))(h3:W.cell? ⟨p,3,none⟩=some (.int .i64 t.2.2.2)):kLo.In n W (some ⟨p,0,none⟩) [t]:=by
 refine Kind.In.mk1 hp fun i hi=>?_
 rw[Nat.zero_add];have hi':i<4:=hi
 rcases(show i=0∨i=1∨i=2∨i=3 from by omega)with rfl|rfl|rfl|rfl
 ·exact h0
 ·exact h1
 ·exact h2
 ·exact h3
theorem eqLost_same(x1:Int)(x2:Int)(x3:Int)(x4:Int)(w:World) :
  Calls prog 90 #[.agg #[.int .i64 x1,.int .i64 x2,.int .i64 x3,.int .i64 x4],.agg #[.int .i64 x1,.int .i64 x2,.int .i64 x3,.int .i64 x4]] w fun e w'=>e=.returned (.bool true)∧Below w.1.size w w':=by
 have h1:(x1 != x1)=false:=by simp
 have h2:(x2 != x2)=false:=by simp
 have h3:(x3 != x3)=false:=by simp
 have h4:(x4 != x4)=false:=by simp
 go_enter func90,ntmps90;go_wp2;go_ret;exact⟨rfl,Qf _ _ _⟩
theorem eqLostS_same(ao bo:Option Addr)(cap cap':Nat)(ts:List (Int×Int×Int×Int))(w:World)(hl:ts.length≤1048576)(hz:kLo.In w.1.size w ao ts)(hz':kLo.In w.1.size w bo ts) :
  Calls prog 51 #[.slice ao ts.length cap,.slice bo ts.length cap'] w fun e w'=>e=.returned (.bool true)∧Below w.1.size w w':=by
 have hne:((ts.length:Int) != (ts.length:Int))=false:=by simp
 go_enter func51,ntmps51;go_wp2
 go_loopw [5] (fun i wr=>∃k:Nat,k≤ts.length∧i=.int .i64 k∧Below w.1.size w wr) (fun i _=>ts.length-(intOf i).toNat)
 case atStart=>exact⟨0,Nat.zero_le _,rfl,Below.refl _ _⟩
 case round =>
  obtain⟨k,hk,rfl,hnx⟩:=hrel
  by_cases hlt:k<ts.length
  ·obtain⟨b,off,rfl,hb,hc⟩:=kLo_at hz hlt;obtain⟨b',off',rfl,hb',hc'⟩:=kLo_at hz' hlt;have hck1:=(hnx.cell (p:=⟨b,off+k*4,none⟩) hb).trans (hc k hlt).1;have hck1':=(hnx.cell (p:=⟨b',off'+k*4,none⟩) hb').trans (hc' k hlt).1;have hck2:=(hnx.cell (p:=⟨b,off+k*4+1,none⟩) hb).trans (hc k hlt).2.1;have hck2':=(hnx.cell (p:=⟨b',off'+k*4+1,none⟩) hb').trans (hc' k hlt).2.1;have hck3:=(hnx.cell (p:=⟨b,off+k*4+2,none⟩) hb).trans (hc k hlt).2.2.1;have hck3':=(hnx.cell (p:=⟨b',off'+k*4+2,none⟩) hb').trans (hc' k hlt).2.2.1;have hck4:=(hnx.cell (p:=⟨b,off+k*4+3,none⟩) hb).trans (hc k hlt).2.2.2;have hck4':=(hnx.cell (p:=⟨b',off'+k*4+3,none⟩) hb').trans (hc' k hlt).2.2.2;clear hc hz hc' hz';obtain⟨⟨x1,x2,x3,x4⟩,ex⟩:∃v,v=el ts k:=⟨_,rfl⟩;rw[←ex]at hck1 hck1' hck2 hck2' hck3 hck3' hck4 hck4';clear ex;dsimp only at hck1 hck1' hck2 hck2' hck3 hck3' hck4 hck4';go_wp2
   go_region_with (go_at_call 90;refine(eqLost_same x1 x2 x3 x4 _).mono ?_;rintro e w1 ⟨rfl,hb1⟩)
   all_goals go_wp2
   all_goals
    have hb2:Below wr.drew.heap.size wr.drew w1:=by assumption
    have hnb:Below w.1.size w w1:=hnx.drew.trans (hb2.mono hnx.size);go_roundw
    case rel=>exact⟨k+1,by omega,by go_num,hnb⟩
    case measure=>simp[intOf];omega
  ·obtain rfl:k=ts.length:=by omega
   go_wp2;go_ret;exact⟨rfl,hnx⟩
section
open Go.RowKit
def kRT:Kind (Option Addr×Nat×Nat):=⟨135,44,1,fun t=>[.slice t.1 t.2.1 t.2.2],fun _=>rfl,fun a v h=>by simp at h;subst h;rfl⟩
theorem kRT_at{n:Nat}{W:World}{ao:Option Addr}{hs:List (Option Addr×Nat×Nat)}(h:kRT.In n W ao hs){k:Nat}(hk:k<hs.length) :
  ∃b off,ao=some ⟨b,off,none⟩∧b<n∧∀j,j<hs.length→W.cell? ⟨b,off+j,none⟩=some (.slice (el hs j).1 (el hs j).2.1 (el hs j).2.2):=by
 obtain⟨b,off,e,hb,hc⟩:=h.pos hk;refine⟨b,off,e,hb,fun j hj=>?_⟩;have:=hc j hj 0 (by decide)
 simpa[kRT]using this
def InRT(n:Nat)(W:World)(ao:Option Addr)(hs:List (Option Addr×Nat×Nat))(ls:List (List (Int×Int×Int))):Prop :=
 kRT.In n W ao hs∧hs.length=ls.length∧∀j,j<ls.length→(el hs j).2.1=(el ls j).length∧kTk.In n W (el hs j).1 (el ls j)
theorem InRT.below{n:Nat}{W W':World}{ao:Option Addr}{hs:List (Option Addr×Nat×Nat)}{ls:List (List (Int×Int×Int))}(h:InRT n W ao hs ls)(hb:Below n W W'):InRT n W' ao hs ls :=
 ⟨h.1.below hb,h.2.1,fun j hj=>⟨(h.2.2 j hj).1,(h.2.2 j hj).2.below hb⟩⟩
theorem InRT.up{n m:Nat}{W:World}{ao:Option Addr}{hs:List (Option Addr×Nat×Nat)}{ls:List (List (Int×Int×Int))}(h:InRT n W ao hs ls)(hm:n≤m):InRT m W ao hs ls :=
 ⟨h.1.up hm,h.2.1,fun j hj=>⟨(h.2.2 j hj).1,(h.2.2 j hj).2.up hm⟩⟩
theorem InRT.later{W W':World}{ao:Option Addr}{hs:List (Option Addr×Nat×Nat)}{ls:List (List (Int×Int×Int))}(h:InRT W.1.size W ao hs ls)(hb:Below W.1.size W W'):InRT W'.1.size W' ao hs ls:=(h.below hb).up hb.size
theorem InRT.at{n:Nat}{W:World}{ao:Option Addr}{hs:List (Option Addr×Nat×Nat)}{ls:List (List (Int×Int×Int))}(h:InRT n W ao hs ls){k:Nat}(hk:k<ls.length) :
  ∃b off o c,ao=some ⟨b,off,none⟩∧b<n∧W.cell? ⟨b,off+k,none⟩=some (.slice o (el ls k).length c)∧el hs k=(o,(el ls k).length,c)∧kTk.In n W o (el ls k):=by
 obtain⟨b,off,e,hb,hc⟩:=kRT_at h.1 (k:=k) (by rw[h.2.1];exact hk);obtain⟨h1,h2⟩:=h.2.2 k hk;refine⟨b,off,(el hs k).1,(el hs k).2.2,e,hb,?_,?_,h2⟩
 ·rw[hc k (by rw[h.2.1];exact hk),h1]
 ·rw[←h1]
def FrRT(lo hi:Nat)(W:World)(ao:Option Addr)(c:Nat)(hs:List (Option Addr×Nat×Nat))(ls:List (List (Int×Int×Int))):Prop :=
 kRT.Fresh lo hi W ao c hs∧hs.length=ls.length∧(∀j,j<ls.length→(el hs j).2.1=(el ls j).length∧kTk.Fresh lo hi W (el hs j).1 (el hs j).2.2 (el ls j))∧
  (∀i j,i<j→j<ls.length→Off (el hs i).1 (el ls i).length (el hs j).1 (el ls j).length)
section
variable {lo hi:Nat} {W W':World} {ao:Option Addr} {c:Nat} {hs:List (Option Addr×Nat×Nat)} {ls:List (List (Int×Int×Int))}
theorem FrRT.in(h:FrRT lo hi W ao c hs ls):InRT W.1.size W ao hs ls:=⟨h.1.in,h.2.1,fun j hj=>⟨(h.2.2.1 j hj).1,(h.2.2.1 j hj).2.in⟩⟩
theorem FrRT.keep(h:FrRT lo hi W ao c hs ls)(hk:∀k,lo≤k→k<hi→k<W.1.size→W'.heap[k]? = W.heap[k]?):FrRT lo hi W' ao c hs ls :=
 ⟨h.1.keep hk,h.2.1,fun j hj=>⟨(h.2.2.1 j hj).1,(h.2.2.1 j hj).2.keep hk⟩,h.2.2.2⟩
theorem FrRT.later(h:FrRT lo hi W ao c hs ls)(hb:Below W.1.size W W'):FrRT lo hi W' ao c hs ls:=h.keep fun k _ _ hk=>hb.block k hk
theorem FrRT.wide{lo' hi':Nat}(h:FrRT lo hi W ao c hs ls)(h1:lo'≤lo)(h2:hi≤hi'):FrRT lo' hi' W ao c hs ls :=
 ⟨h.1.wide h1 h2,h.2.1,fun j hj=>⟨(h.2.2.1 j hj).1,(h.2.2.1 j hj).2.wide h1 h2⟩,h.2.2.2⟩
theorem FrRT.between'{lo' hi':Nat}(h:FrRT lo hi W ao c hs ls)(hb:Between lo' hi' W W')(hd:hi≤lo'∨hi'≤lo):FrRT lo hi W' ao c hs ls :=
 h.keep fun k h1 h2 h3=>hb.block k h3 (by omega)
theorem FrRT.nil(lo hi:Nat)(W:World)(ao:Option Addr)(c:Nat):FrRT lo hi W ao c [] []:=⟨.inl rfl,rfl,fun j hj=>by simp at hj,fun i j _ hj=>by simp at hj⟩
theorem FrRT.set{k:Nat}{x:List (Int×Int×Int)}(h:FrRT lo hi W ao c hs ls)(hk:k<ls.length)(hx:x.length=(el ls k).length)(hF:kTk.Fresh lo hi W' (el hs k).1 (el hs k).2.2 x)(hO:OnlyAt (eff (el hs k).1 (el ls k).length) W W'):FrRT lo hi W' ao c hs (ls.set k x):=by
 have he:∀j,j<ls.length→el (ls.set k x) j=if j=k then x else el ls j:=by
  intro j hj
  by_cases e:j=k
  ·subst e;simp[el,hj]
  ·simp[el,e,Ne.symm e]
 have hlen:∀j,j<ls.length→(el (ls.set k x) j).length=(el ls j).length:=by
  intro j hj;rw[he j hj]
  split
  ·rename_i e;rw[hx,e]
  ·rfl
 refine⟨?_,by rw[List.length_set];exact h.2.1,?_,?_⟩
 ·refine h.1.off (h.1.rowAt.off (h.2.2.1 k hk).2.rowAt ?_) hO
  show(135:TypeId)≠163
  decide
 ·intro j hj;rw[List.length_set]at hj;refine⟨by rw[hlen j hj];exact(h.2.2.1 j hj).1,?_⟩;rw[he j hj]
  split
  ·rename_i e;subst e;exact hF
  ·rename_i e;refine(h.2.2.1 j hj).2.off ?_ hO
   rcases Nat.lt_or_ge j k with hjk|hjk
   ·exact h.2.2.2 j k hjk hk
   ·exact(h.2.2.2 k j (by omega) hj).symm
 ·intro i j hij hj;rw[List.length_set]at hj;rw[hlen i (by omega),hlen j hj];exact h.2.2.2 i j hij hj
end
def Zs(ls:List (List (Int×Int×Int))):Nat:=(ls.map List.length).sum
theorem Ws{ls:List (List (Int×Int×Int))}{k:Nat}(h:k<ls.length):Zs (ls.take (k+1))=Zs (ls.take k)+(el ls k).length:=by
 rw[Zy h];simp[Zs]
theorem totT_le(ls:List (List (Int×Int×Int)))(k:Nat):Zs (ls.take k)≤Zs ls:=by
 induction ls generalizing k with
 |nil=>simp[Zs]
 |cons x r ih =>
  cases k with
  |zero=>simp[Zs]
  |succ k=>simp only[List.take_succ_cons,Zs,List.map_cons,List.sum_cons];have:=ih k;simp only[Zs]at this;omega
theorem Kl{ls:List (List (Int×Int×Int))}{k:Nat}(h:k<ls.length):Zs (ls.take k)+(el ls k).length≤Zs ls:=by
 rw[←Ws h];exact totT_le ls _
theorem Fv(ao bo:Option Addr)(cap cap':Nat)(hs hs':List (Option Addr×Nat×Nat))(ls:List (List (Int×Int×Int)))(w:World)(hl:ls.length≤1048576)(hle:Zs ls≤1048576)(hz:InRT w.1.size w ao hs ls)(hz':InRT w.1.size w bo hs' ls) :
  Calls prog 49 #[.slice ao ls.length cap,.slice bo ls.length cap'] w fun e w'=>e=.returned (.bool true)∧Below w.1.size w w':=by
 have hne:((ls.length:Int) != (ls.length:Int))=false:=by simp
 go_enter func49,ntmps49;go_wp2
 go_loopw [5] (fun i wr=>∃k:Nat,k≤ls.length∧i=.int .i64 k∧Below w.1.size w wr) (fun i _=>ls.length-(intOf i).toNat)
 case atStart=>exact⟨0,Nat.zero_le _,rfl,Below.refl _ _⟩
 case round =>
  obtain⟨k,hk,rfl,hnx⟩:=hrel
  by_cases hlt:k<ls.length
  ·obtain⟨b,off,o,c,rfl,hb,hc,_,hI⟩:=hz.at hlt;obtain⟨b',off',o',c',rfl,hb',hc',_,hI'⟩:=hz'.at hlt;have d1:=(hnx.cell (p:=⟨b,off+k,none⟩) hb).trans hc;have d2:=(hnx.cell (p:=⟨b',off'+k,none⟩) hb').trans hc';have hxl:(el ls k).length≤1048576:=by have:=Kl hlt;omega
   generalize hx:el ls k=x at d1 d2 hI hI' hxl
   have HI:=Zd (hI.later hnx);have HI':=Zd (hI'.later hnx);clear hx hc hc' hI hI';go_wp2
   go_region_with (go_at_call 88;refine(eqTokenS_same o o' c c' x _ hxl (by exact HI.o) (by exact HI'.o)).mono ?_;rintro e w1 ⟨rfl,hb1⟩)
   all_goals go_wp2
   all_goals
    have hb2:Below wr.drew.heap.size wr.drew w1:=by assumption
    have hnb:Below w.1.size w w1:=hnx.drew.trans (hb2.mono hnx.size);go_roundw
    case rel=>exact⟨k+1,by omega,by go_num,hnb⟩
    case measure=>simp[intOf];omega
  ·obtain rfl:k=ls.length:=by omega
   go_wp2;go_ret;exact⟨rfl,hnx⟩
end
structure HandsT(g:Nat)(W:World)(xs:List Value)(ls:List (List (Int×Int×Int))):Prop where
 len:xs.length=ls.length
 head:W.ownsRow g 135 1 (.slice (some ⟨g,0,none⟩) ls.length ls.length) ls.length xs
 row:∀j,j<ls.length→kTk.Own (g+1) W (el xs j) (el ls j)
 off:∀i j,i<j→j<ls.length→∀b,(el xs i).ownBlock=some b→(el xs j).ownBlock≠some b
theorem Zh{α:Type} [Inhabited α] {l:List α} {k:Nat} {x:α} (h:k<l.length):el (l.set k x) k=x:=by simp[el,h]
theorem Zm{α:Type} [Inhabited α] {l:List α} {k j:Nat} {x:α} (h:j≠k):el (l.set k x) j=el l j:=by simp[el,Ne.symm h]
theorem Zj{α:Type}{K:Kind α}{lo:Nat}{W:World}{v:Value}{xs:List α}(h:K.Own lo W v xs){b:Nat}(hb:v.ownBlock=some b):lo≤b∧b<W.1.size:=by
 rcases h.2 with⟨e,_⟩|⟨g,cap,cur,e,hg,hh,_⟩
 ·subst e;simp[Value.ownBlock]at hb
 ·subst e;simp[Value.ownBlock]at hb;subst hb;exact⟨hg,(Array.getElem?_eq_some_iff.1 hh).1⟩
theorem Za{α:Type}{K:Kind α}{lo:Nat}{W W':World}{v:Value}{xs:List α}(h:K.Own lo W v xs)(hk:∀b,v.ownBlock=some b→W'.heap[b]? = W.heap[b]?):K.Own lo W' v xs:=by
 obtain⟨h1,h2⟩:=h;refine⟨h1,?_⟩
 rcases h2 with h2|⟨g,cap,cur,e,hg,hh,r⟩
 ·exact .inl h2
 ·refine .inr ⟨g,cap,cur,e,hg,?_,r⟩;rw[hk g (by subst e;rfl)];exact hh
theorem Xm{α β:Type}{K:Kind α}{K2:Kind β}{lo lo2:Nat}{W:World}{v u:Value}{xs:List α}{ys:List β}(h:K.Own lo W v xs)(h2:K2.Own lo2 W u ys)(hne:K.ty≠K2.ty){b:Nat}(hb:v.ownBlock=some b):u.ownBlock≠some b:=fun hb2=>by
 rcases h.2 with⟨e,_⟩|⟨g,cap,cur,e,_,hh,_⟩
 ·subst e;simp[Value.ownBlock]at hb
 ·rcases h2.2 with⟨e2,_⟩|⟨g2,cap2,cur2,e2,_,hh2,_⟩
  ·subst e2;simp[Value.ownBlock]at hb2
  ·subst e e2
   simp[Value.ownBlock]at hb hb2
   subst hb hb2;rw[hh]at hh2
   simp at hh2
   exact hne hh2.2
theorem HandsT.later{g:Nat}{W W':World}{xs:List Value}{ls:List (List (Int×Int×Int))}(h:HandsT g W xs ls)(hb:Below W.1.size W W'):HandsT g W' xs ls :=
 ⟨h.len,Ym h.head hb,fun j hj=>(h.row j hj).below hb,h.off⟩
theorem HandsT.size{g:Nat}{W:World}{xs:List Value}{ls:List (List (Int×Int×Int))}(h:HandsT g W xs ls):g<W.1.size:=(Jt h.head).2
theorem HandsT.put{g t:Nat}{W W':World}{xs:List Value}{ls:List (List (Int×Int×Int))}{v:Value}{x:List (Int×Int×Int)}(h:HandsT g W xs ls)(ht:t<ls.length)(hO:kTk.Own (g+1) W' v x)(hG:W.grownBy W' (el xs t).ownBlock)(hw:∀b,v.ownBlock=some b→(el xs t).ownBlock=some b∨W.1.size≤b) :
  HandsT g (W'.setCell ⟨g,t,none⟩ v) (xs.set t v) (ls.set t x):=by
 have hx:t<xs.length:=by rw[h.len];exact ht
 have hkeep:∀b,b<W.1.size→(el xs t).ownBlock≠some b→W'.heap[b]? = W.heap[b]? := fun b hb hne=>hG.block b hb (fun e=>hne e.symm)
 have hgne:(el xs t).ownBlock≠some g:=fun e=>by have:=(Zj (h.row t ht) e).1;omega
 have hset:∀b,b≠g→(W'.setCell ⟨g,t,none⟩ v).heap[b]? = W'.heap[b]? := fun b hb=>Below.heap_setCell _ _ _ _ hb
 have hhead:W'.ownsRow g 135 1 (.slice (some ⟨g,0,none⟩) ls.length ls.length) ls.length xs:=Ji h.head (hkeep g h.size hgne);refine⟨by simp[h.len],?_,?_,?_⟩
 ·rw[List.length_set];exact(hhead.stored t v).1
 ·intro j hj;rw[List.length_set]at hj
  by_cases e:j=t
  ·subst e;rw[Zh hx,Zh ht];exact Za hO fun b hb=>hset b (by have:=(Zj hO hb).1;omega)
  ·rw[Zm e,Zm e];refine Za (h.row j hj) fun b hb=>?_
   have hbl:=Zj (h.row j hj) hb;rw[hset b (by omega)];refine hkeep b hbl.2 fun e'=>?_
   rcases Nat.lt_or_ge j t with hjt|hjt
   ·exact h.off j t hjt ht b hb e'
   ·exact h.off t j (by omega) hj b e' hb
 ·intro i j hij hj b hi;rw[List.length_set]at hj
  by_cases e1:i=t
  ·subst e1;rw[Zh hx]at hi;rw[Zm (by omega)];intro hjb
   rcases hw b hi with h1|h1
   ·exact h.off i j hij hj b h1 hjb
   ·have:=(Zj (h.row j hj) hjb).2;omega
  ·rw[Zm e1]at hi
   by_cases e2:j=t
   ·subst e2;rw[Zh hx];intro hjb
    rcases hw b hjb with h1|h1
    ·exact h.off i j hij hj b hi h1
    ·have:=(Zj (h.row i (by omega)) hi).2;omega
   ·rw[Zm e2];exact h.off i j hij hj b hi
def hdr:Value→Option Addr×Nat×Nat
 | .slice o n c=>(o,n,c)
 |_=>(none,0,0)
theorem HandsT.slice{g j:Nat}{W:World}{xs:List Value}{ls:List (List (Int×Int×Int))}(h:HandsT g W xs ls)(hj:j<ls.length):∃o c,el xs j=.slice o (el ls j).length c∧(o=none→c=0)∧kTk.Fresh (g+1) W.1.size W o c (el ls j):=(h.row j hj).fresh
theorem el_map{α β:Type} [Inhabited α] [Inhabited β] (f:α→β) {l:List α} {j:Nat} (h:j<l.length):el (l.map f) j=f (el l j):=by simp[el,h]
theorem HandsT.flat{g:Nat}{W:World}{xs:List Value}{ls:List (List (Int×Int×Int))}(h:HandsT g W xs ls):kRT.flat (xs.map hdr)=xs:=by
 refine(kRT.flat_of xs (xs.map hdr) (by simp[kRT]) fun j hj i hi=>?_).symm;have e:i=0:=by have:i<1:=hi;omega
 subst e;rw[List.length_map]at hj;obtain⟨o,c,hs,_,_⟩:=h.slice (j:=j) (by rw[←h.len];exact hj);rw[el_map hdr hj,hs]
 show xs[j*1+0]? = _
 rw[Nat.mul_one,Nat.add_zero];have:xs[j]? = some (el xs j):=by simp[el,hj]
 rw[this,hs]
 rfl
theorem HandsT.fr{g:Nat}{W:World}{xs:List Value}{ls:List (List (Int×Int×Int))}(h:HandsT g W xs ls):FrRT g W.1.size W (some ⟨g,0,none⟩) ls.length (xs.map hdr) ls:=by
 refine⟨.inr ⟨g,rfl,h.size,?_⟩,by simp[h.len],fun j hj=>?_,fun i j hij hj=>?_⟩
 ·rw[List.length_map,h.len,h.flat];exact h.head
 ·obtain⟨o,c,hs,_,hF⟩:=h.slice hj;rw[el_map hdr (by rw[h.len];exact hj),hs];exact⟨rfl,hF.wide (by omega) (Nat.le_refl _)⟩
 ·obtain⟨o,c,hs,_,hF⟩:=h.slice (j:=i) (by omega);obtain⟨o',c',hs',_,hF'⟩:=h.slice hj;have hoff:=h.off i j hij hj;rw[el_map hdr (by rw[h.len];omega),el_map hdr (by rw[h.len];exact hj),hs,hs'];rw[hs,hs']at hoff
  rcases hF with e|⟨b,rfl,_⟩
  ·rw[e];exact .inl rfl
  ·refine .inr (.inr fun e=>?_);dsimp only[hdr]at e;subst e;exact hoff b rfl rfl
end Go.Proofs.YtdacedbfnlkghaaGreatDoor