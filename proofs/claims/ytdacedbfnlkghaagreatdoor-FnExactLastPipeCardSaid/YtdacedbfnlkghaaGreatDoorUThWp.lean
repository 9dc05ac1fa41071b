/- SourcesOf, the program's and the specification's. The order of a graph: the specification. The widest of a graph, plainly; the specification. No conditions but those written. -/
import Derived.Test.YtdacedbfnlkghaaGreatDoorUCkLd
namespace Go.Proofs.YtdacedbfnlkghaaGreatDoor
set_option maxHeartbeats 16000000
set_option maxRecDepth 10000
open Go.RowKit Go.Proofs.Tryz
theorem filter_succ{zs:List Int}{k:Nat}(hk:k<zs.length)(p:Int→Bool):(zs.take (k+1)).filter p=if p (el zs k)=true then(zs.take k).filter p++[el zs k]else(zs.take k).filter p:=by
 rw[Zy hk,List.filter_append]
 by_cases h:p (el zs k)=true
 ·rw[if_pos h];simp[h]
 ·rw[if_neg h];simp[h]
theorem filter_len(zs:List Int)(k:Nat)(p:Int→Bool):((zs.take k).filter p).length≤k:=Nat.le_trans (List.length_filter_le _ _) (by simp;omega)
theorem thoseI_any(g:Nat)(cb:Array Value)(eg:∀args w,(callFunc g args).run prog w=.ok (.enter g args) w)(ao:Option Addr)(cap:Nat)(zs:List Int)(p:Int→Bool)(w:World)(hl:zs.length≤1048576)(hz:kI.In w.1.size w ao zs)(hC:∀x W,x∈zs→Below w.1.size w W→Calls prog g (#[.int .i64 x]++cb) W fun e w'=>e=.returned (.bool (p x))∧Below W.1.size W w') :
  Calls prog 201 #[.slice ao zs.length cap,.func (.func g) #[] cb] w fun e w'=>AnsI w (zs.filter p) e w':=by
 have HC:=Zd hC;clear hC;go_enter func201,ntmps201;go_wp2
 go_loopw [5,10] (fun u i wr=>∃(k:Nat)(v:Value),v=u∧k≤zs.length∧i=.int .i64 k∧Zi (kI.Own w.1.size wr v ((zs.take k).filter p))∧Below w.1.size w wr) (fun _ i _=>zs.length-(intOf i).toNat)
 case atStart=>exact⟨0,_,rfl,Nat.zero_le _,rfl,Kind.Own.nil _ _ _,Below.refl _ _⟩
 case round =>
  obtain⟨k,v,rfl,hk,rfl,hO,hB⟩:=hrel
  by_cases hlt:k<zs.length
  ·obtain⟨b,off,rfl,hb,hc⟩:=Zo hz hlt;have d1:=(hB.cell (p:=⟨b,off+k,none⟩) hb).trans (hc k hlt);have hm:=Zl hlt;have hcall:=fun W hW=>HC.o (el zs k) W hm hW
   have HSS:=Zd (filter_succ hlt p);have hll:((zs.take k).filter p).length+1≤4194304:=by have:=filter_len zs k p;omega
   obtain⟨x,ex⟩:=nmd (el zs k);rw[←ex]at d1 hcall HSS;clear ex hc hm
   cases hy:p x
   ·rw[hy]at hcall;rw[hy,if_neg (by simp)]at HSS;clear hy;go_wp2_with (go_at_fn g;refine(hcall _ hB).mono ?_;rintro e w1 ⟨rfl,hb1⟩;have hB1:Below w.1.size w w1:=hB.trans (hb1.mono hB.size);have O1:Zi (kI.Own w.1.size w1 v ((zs.take (k+1)).filter p)):=(by rw[Zi,HSS.o];exact hO.o.below hb1);clear hb1);go_roundw
    case rel=>exact⟨k+1,_,rfl,by omega,by go_num,O1,hB1⟩
    case measure=>simp[intOf];omega
   ·rw[hy]at hcall;rw[hy,if_pos rfl]at HSS;clear hy;go_wp2_with (first
     |(go_at_fn g;refine(hcall _ hB).mono ?_;rintro e w1 ⟨rfl,hb1⟩;have hB1:Below w.1.size w w1:=hB.trans (hb1.mono hB.size);have hs1:=hB1.size;have HA:Zi (kI.Own w.1.size (w1.alloc (.cells #[.int .i64 x] 3)) v ((zs.take k).filter p)):=(hO.o.below hb1).below (Zk _ _);have HN:Zi (kI.In (w1.1.size+1) (w1.alloc (.cells #[.int .i64 x] 3)) (some ⟨w1.1.size,0,none⟩) [x]):=Kc (by omega) (by simp);have hBa:Below w.1.size w (w1.alloc (.cells #[.int .i64 x] 3)):=Zx hB1 _;clear hb1)
     |(at_builtin;refine Kind.app Vq (w1.alloc (.cells #[.int .i64 x] 3)) rfl (.tmp 17) (.tmp 19) rfl w.1.size v ((zs.take k).filter p) rfl HA.o (by simp;omega) (some ⟨w1.1.size,0,none⟩) [x] 1 1 rfl rfl (by simp) _ HN.o hll ?_;intro v' w' hO' hB' hG' hn';have hB2:Below w.1.size w w':=hBa.trans (hB'.mono (by omega));have HO':Zi (kI.Own w.1.size w' v' ((zs.take (k+1)).filter p)):=(by rw[Zi,HSS.o];exact hO');clear hO' hB' hG' hn'))
    go_roundw
    case rel=>exact⟨k+1,v',rfl,by omega,by go_num,HO',hB2⟩
    case measure=>simp[intOf];omega
  ·obtain rfl:k=zs.length:=by omega
   rw[List.take_length]at hO;obtain⟨qo,qc,rfl,_,hF⟩:=hO.o.fresh;have HF:=Zd hF;clear hF hO;go_wp2;go_ret;exact⟨⟨_,_,rfl,HF.o⟩,hB⟩
def Xu(b:Int)(x:LNode):Bool:=Wr x.2.2.2.2.2.2.2 b
theorem Tryz.entersS1:∀args w,(callFunc 197 args).run prog w=.ok (.enter 197 args) w:=enters_of func197 (by kernel_rfl) rfl
theorem Tryz.entersS2:∀args w,(callFunc 199 args).run prog w=.ok (.enter 199 args) w:=enters_of func199 (by kernel_rfl) rfl
theorem source2_is(pt:Nat)(nm:ByteArray)(kd sa sb cp:Int)(nxo:Option Addr)(nxc:Nat)(nx:List Int)(b:Int)(w:World)(hl:nx.length≤1048576)(hz:kI.In w.1.size w nxo nx)(hT:Bx w pt [.int .i64 b]) :
  Calls prog 199 #[.agg #[.string nm,.int .i64 kd,.int .i64 sa,.int .i64 sb,.int .i64 cp,.slice nxo nx.length nxc],.pointer (some ⟨pt,0,none⟩)] w fun e w'=>e=.returned (.bool (Wr nx b))∧Below w.1.size w w':=by
 obtain⟨V,hV⟩:=nmd (w.alloc (.cells #[.string nm,.int .i64 kd,.int .i64 sa,.int .i64 sb,.int .i64 cp,.slice nxo nx.length nxc] 27));have hb:Below w.1.size w V:=by rw[hV];exact Zk _ _
 have HV:=Zd hV;have HI:=Zd (hz.later hb);have t0:=(hT.later hb).c 0 rfl;have t1:=hT.c 0 rfl;have hts:=hT.size;have HB:=Zd hb;clear hV hz hb hT;go_enter func199,ntmps199;go_wp2_with fail;rw[←HV.o];refine(Ux V.1.size nxo nxc nx b V (Wr nx b) hl HI.o rfl).mono ?_;rintro e w1 ⟨rfl,rfl⟩;go_wp2;go_ret;exact⟨rfl,HB.o⟩
theorem source1_is(pg:Nat)(ao:Option Addr)(cap:Nat)(ts:List LNode)(b:Int)(w:World)(hl:ts.length≤1048576)(hF:FitN ts)(hG:GrIn w pg ao cap ts) :
  Calls prog 197 #[.int .i64 b,.pointer (some ⟨pg,0,none⟩)] w fun e w'=>e=.returned (.bool (!ts.any (Xu b)))∧Below w.1.size w w':=by
 obtain⟨V,hV⟩:=nmd (w.alloc (.cells #[.int .i64 b] 3));have hb:Below w.1.size w V:=by rw[hV];exact Zk _ _
 have hX:Bx V w.1.size [.int .i64 b]:=by rw[hV];exact Bx.new [.int .i64 b] _ rfl
 have hG1:=hG.later hb;have hcon:=Yf 199 #[.pointer (some ⟨w.1.size,0,none⟩)] Tryz.entersS2 ao cap ts (Xu b) V hl hG1.rows.1 (fun x W hx hW=>by
  obtain⟨j,hj,rfl⟩:=Gx hx;have hin:kI.In V.1.size V _ _:=hG1.rows.2 j hj;exact source2_is w.1.size _ _ _ _ _ _ _ _ b W (hF _ (Zl hj)).2 (hin.later hW) (hX.later hW))
 have hq:=hG1.box.c 0 rfl;have q0:=hG.box.c 0 rfl;have hqs:=hG.box.size;have HV:=Zd hV;have HB:=Zd hb;clear hV hX hb hG hG1;go_enter func197,ntmps197;go_wp2_with fail;rw[←HV.o];refine hcon.mono ?_;rintro e w1 ⟨rfl,hb1⟩;have hB1:Below w.1.size w w1:=HB.o.trans (hb1.mono HB.o.size);clear hb1;go_wp2;go_ret;exact⟨rfl,hB1⟩
theorem ledC_zero(ts:List LNode)(j:Nat):decide (Ds (ts.map Zz) (ts.map Zz).length j=0) = !ts.any (Xu (j:Int)):=by
 rw[Ds,List.take_length]
 induction ts with
 |nil=>simp
 |cons a r ih =>
  have e:((r.map Zz).map fun a=>a.2.2.2.2.2.count (j:Int)).sum=0↔r.any (Xu (j:Int))=false:=by
   have h:=ih
   constructor
   ·intro h0;rw[decide_eq_true h0]at h;simpa using h.symm
   ·intro h0;rw[h0]at h;simpa using h
  simp only[List.map_cons,List.sum_cons,List.any_cons]
  by_cases h1:(j:Int)∈(Zz a).2.2.2.2.2
  ·have h2:Xu (j:Int) a=true:=by simp only[Xu,Wr,decide_eq_true_eq];exact h1
   have h3:0<(Zz a).2.2.2.2.2.count (j:Int):=List.count_pos_iff.2 h1;rw[h2,decide_eq_false (by omega)];rfl
  ·have h2:Xu (j:Int) a=false:=by simp only[Xu,Wr,decide_eq_false_iff_not];exact h1
   rw[h2,List.count_eq_zero_of_not_mem h1,Nat.zero_add,Bool.false_or]
   cases h4:r.any (Xu (j:Int))with
   |false=>rw[decide_eq_true (e.2 h4)];rfl
   |true=>rw[decide_eq_false (fun h=>by rw[e.1 h]at h4;cases h4)];rfl
theorem src_eq(ts:List LNode):(Qh ts.length).filter (fun b => !ts.any (Xu b))=Ke (ts.map Zz) ts.length:=by
 rw[Ke];refine List.filter_congr fun x hx=>?_
 obtain⟨k,_,rfl⟩:=Xd hx;rw[Int.toNat_natCast,ledC_zero]
def srcR(gs:List PNode):List Int×Bool:=if Qa gs=0 then(Ke gs gs.length,true)else([],false)
def AnsIB(w:World)(q:List Int)(y:Bool)(e:Ending)(w':World):Prop:=(∃go qc,e=.returned (.tuple #[.slice go q.length qc,.bool y])∧kI.Fresh w.1.size w'.1.size w' go qc q)∧Below w.1.size w w'
theorem Roomy.fitN{ts:List LNode}{cap:Nat}(h:Roomy ts cap):FitN ts:=fun a ha=>h.fit a ha
theorem Fj(ao:Option Addr)(cap:Nat)(ts:List LNode)(ea:Nat→Addr)(w:World)(hC:Roomy ts cap)(hE:Errs w ea)(hz:DIn Ja w.1.size w ao ts) :
  Calls prog 163 #[.slice ao ts.length cap] w fun e w'=>AnsIB w (srcR (ts.map Zz)).1 (srcR (ts.map Zz)).2 e w':=by
 obtain⟨V,hV⟩:=nmd (w.alloc (.cells #[.slice ao ts.length cap] 39));have hb:Below w.1.size w V:=by rw[hV];exact Zk _ _
 have hX:Bx V w.1.size [.slice ao ts.length cap]:=by rw[hV];exact Bx.new [.slice ao ts.length cap] _ rfl
 have hG:GrIn V w.1.size ao cap ts:=⟨hX,hz.later Zf hb⟩;have hcon:=Ge ao cap ts ea V hC (hE.later hb) hG.rows;have HG:=Zd hG;have HV:=Zd hV;have HB:=Zd hb;have HFi:=Zd hC.fitN;clear hz hE hV hX hb hG
 by_cases h0:Qa (ts.map Zz)=0
 ·have h10:ts.length≤10:=by have:=(Jw h0).1;rw[Zb]at this;omega
  have HVV:Zi (srcR (ts.map Zz)=((Qh ts.length).filter (fun b => !ts.any (Xu b)),true)):=by rw[Zi,srcR,if_pos h0,src_eq,Zb]
  rw[decide_eq_true h0]at hcon;clear h0 hC;go_enter func163,ntmps163;go_wp2_with fail;rw[←HV.o];refine hcon.mono ?_;rintro e w1 ⟨rfl,hb1⟩;have hB1:Below w.1.size w w1:=HB.o.trans (hb1.mono HB.o.size);have G1:=Zd (HG.o.later hb1);have b1:=G1.o.box.c 0 rfl;clear hb1 hcon HG HV HB;go_wp2_with fail;refine(Vr ao cap ts.length w1 (by omega)).mono ?_;rintro e w2 ⟨⟨go,qc,rfl,hF2⟩,hb2⟩;have hB2:Below w.1.size w w2:=hB1.trans (hb2.mono hB1.size);have G2:=Zd (G1.o.later hb2);have F2:=Zd hF2;clear hb2 hF2 b1 G1;go_wp2_with fail;refine(thoseI_any 197 #[.pointer (some ⟨w.1.size,0,none⟩)] Tryz.entersS1 go qc (Qh ts.length) (fun b => !ts.any (Xu b)) w2 (by rw[Qd];omega) F2.o.in (fun x W _ hW=>source1_is w.1.size ao cap ts x W (by omega) HFi.o (G2.o.later hW))).mono ?_;rintro e w3 ⟨⟨g3,c3,rfl,hF3⟩,hb3⟩;have hB3:=hB2.trans (hb3.mono hB2.size);have F3:=Zd (hF3.wide (lo':=w.1.size) (hi':=w3.1.size) hB2.size (Nat.le_refl _));clear hb3 hF3;go_wp2;rw[HVV.o];refine bodyPost_ret (v:=.tuple #[.slice g3 ((Qh ts.length).filter (fun b => !ts.any (Xu b))).length c3,.bool true]) (by simp[results,results163,go_sem]) rfl ?_;exact⟨⟨_,_,rfl,F3.o⟩,hB3⟩
 ·have HVV:Zi (srcR (ts.map Zz)=([],false)):=by rw[Zi,srcR,if_neg h0]
  rw[decide_eq_false h0]at hcon;clear h0 hC;go_enter func163,ntmps163;go_wp2_with fail;rw[←HV.o];refine hcon.mono ?_;rintro e w1 ⟨rfl,hb1⟩;have hB1:Below w.1.size w w1:=HB.o.trans (hb1.mono HB.o.size);clear hb1 hcon HG HV HB;go_wp2;rw[HVV.o];refine bodyPost_ret (v:=.tuple #[.slice none 0 0,.bool false]) (by simp[results,results163,go_sem]) rfl ?_;exact⟨⟨_,_,rfl,.inl rfl⟩,hB1⟩
def ledS(gs:List PNode)(l:List Int)(x:Nat):Nat:=(l.map fun a=>(nxP gs a.toNat).count (x:Int)).sum
theorem ledS_nums{gs:List PNode}(x:Nat):∀k,k≤gs.length→ledS gs (Qh k) x=Ds gs k x
 |0,_=>by simp[ledS,Ds,Qh]
 |k+1,hk=>by
  rw[Mg (by omega),←ledS_nums x k (by omega),ledS,Te]
  simp[ledS]
theorem Pp{l:List Int}{p:Nat}(hp:p<l.length):l=l.take p++el l p::l.drop (p+1):=by
 rw[Km hp,←List.drop_eq_getElem_cons hp,List.take_append_drop]
theorem ledS_cut(gs:List PNode){l:List Int}{p:Nat}(hp:p<l.length)(x:Nat):ledS gs l x=ledS gs (l.take p++l.drop (p+1)) x+(nxP gs (el l p).toNat).count (x:Int):=by
 rw[ledS,Pp hp];simp only[ledS,List.map_append,List.sum_append,List.map_cons,List.sum_cons];rw[←Pp hp]
 omega
theorem Me(gs:List PNode)(x:Nat):∀l:List Int,ledS gs l x=0↔Hf gs l (x:Int)=false
 | []=>by simp[ledS,Hf]
 |a::r=>by
  have ih:=Me gs x r;have e:ledS gs (a::r) x=(nxP gs a.toNat).count (x:Int)+ledS gs r x:=by simp[ledS]
  have e2:Hf gs (a::r) (x:Int)=(Gy gs a (x:Int)||Hf gs r (x:Int)):=by simp[Hf]
  rw[e,e2,Bool.or_eq_false_iff,←ih];have e3:Gy gs a (x:Int)=false↔(nxP gs a.toNat).count (x:Int)=0:=by
   rw[List.count_eq_zero]
   show Wr (nxP gs a.toNat) (x:Int)=false↔_
   simp[Wr]
  rw[e3];omega
def decL(L nx:List Int):List Int:=(List.range L.length).map fun x:Nat=>el L x-(nx.count (x:Int):Nat)
theorem decL_len(L nx:List Int):(decL L nx).length=L.length:=by simp[decL]
theorem decL_el{L:List Int}{x:Nat}(hx:x<L.length)(nx:List Int):el (decL L nx) x=el L x-(nx.count (x:Int):Nat):=by simp[decL,el,hx]
theorem decL_nil(L:List Int):decL L []=L:=by
 refine List.ext_getElem (by simp[decL]) fun i h1 h2=>?_
 simp[decL,el,h2]
theorem decL_step{L:List Int}{j:Nat}(nx:List Int):(decL L nx).set j (el L j-(nx.count (j:Int):Nat)-1)=decL L (nx++[(j:Int)]):=by
 refine List.ext_getElem (by simp[decL]) fun i h1 h2=>?_
 have hi:i<L.length:=by simpa[decL]using h2
 rw[List.getElem_set]
 by_cases e:j=i
 ·subst e;simp[decL,List.count_append];omega
 ·rw[if_neg e];have hne:((j:Nat):Int)≠((i:Nat):Int):=by omega
  simp[decL,List.count_append,List.count_singleton,hne]
structure Led(gs:List PNode)(l L:List Int):Prop where
 len:L.length=gs.length
 inn:∀x:Nat,x<gs.length→(x:Int)∈l→el L x=((ledS gs l x:Nat):Int)
 o:∀x:Nat,x<gs.length→(x:Int)∉l→el L x<0
 low:∀x:Nat,x<gs.length→-(1+10*((gs.length:Int)-(l.length:Int)))≤el L x
 top:∀x:Nat,x<gs.length→el L x≤100
 rng:∀a∈l,∃j:Nat,j<gs.length∧a=(j:Int)
 inc:l.Pairwise (· < ·)
theorem Mx(n:Nat):(Qh n).Pairwise (· < ·):=by
 rw[Qh];refine List.Pairwise.map _ (fun a b h=>?_) List.pairwise_lt_range
 omega
theorem Led.start{gs:List PNode}(hE:EdgesIn gs):Led gs (Qh gs.length) (Dd gs gs.length []) where
 len:=Hu _ _ _
 inn x hx _:=by rw[Mf hx,ledS_nums x _ (Nat.le_refl _)];simp
 o x hx h:=absurd (by simp only[Qh,List.mem_map,List.mem_range];exact⟨x,hx,rfl⟩) h
 low x hx:=by rw[Mf hx,Qd];omega
 top x hx:=by have:=ledC_le hE x gs.length (Nat.le_refl _);have:=hE.many;rw[Mf hx];simp;omega
 rng a ha:=Xd ha
 inc:=Mx _
theorem cut_eq(l:List Int)(p:Nat):l.take p++l.drop (p+1)=l.eraseIdx p:=(List.eraseIdx_eq_take_drop_succ _ _).symm
theorem Rd{l:List Int}(h:l.Pairwise (· < ·)):l.Nodup:=h.imp fun hab=>by omega
theorem mem_cutI{l:List Int}(h:l.Nodup){p:Nat}(hp:p<l.length)(x:Int):x∈l.take p++l.drop (p+1)↔x∈l∧x≠el l p:=by
 have h2:=h;rw[Pp hp]at h2;rw[List.nodup_append]at h2;obtain⟨h3,h4,h5⟩:=h2;rw[List.nodup_cons]at h4;have hs:=Pp hp
 constructor
 ·intro hx;rw[List.mem_append]at hx
  constructor
  ·rw[hs,List.mem_append,List.mem_cons]
   rcases hx with hx|hx
   ·exact .inl hx
   ·exact .inr (.inr hx)
  ·rintro rfl
   rcases hx with hx|hx
   ·exact h5 _ hx _ List.mem_cons_self rfl
   ·exact h4.1 hx
 ·rintro⟨hx,hne⟩;rw[hs,List.mem_append,List.mem_cons]at hx;rw[List.mem_append]
  rcases hx with hx|rfl|hx
  ·exact .inl hx
  ·exact absurd rfl hne
  ·exact .inr hx
theorem Bn{L:List Int}{k x:Nat}{v:Int}(hk:k<L.length):el (L.set k v) x=if x=k then v else el L x:=by
 by_cases e:x=k
 ·subst e;simp[el,hk]
 ·rw[if_neg e];simp[el,Ne.symm e]
theorem Led.step{gs:List PNode}(hE:EdgesIn gs){l L:List Int}(h:Led gs l L){p k:Nat}(hp:p<l.length)(hk:el l p=(k:Int)):Led gs (l.take p++l.drop (p+1)) (decL (L.set k (-1)) (nxP gs k)):=by
 have hkn:k<gs.length:=by obtain⟨j,hj,e⟩:=h.rng _ (Zl hp);rw[hk]at e;omega
 have hkL:k<L.length:=by rw[h.len];exact hkn
 have hnd:=Rd h.inc;have hlen:(l.take p++l.drop (p+1)).length=l.length-1:=by simp;omega
 have hel:∀x,x<gs.length→el (decL (L.set k (-1)) (nxP gs k)) x=(if x=k then -1 else el L x)-((nxP gs k).count (x:Int):Nat):=fun x hx=>by
  rw[decL_el (by rw[List.length_set,h.len];exact hx),Bn hkL]
 have hc:∀x:Nat,(nxP gs k).count (x:Int)≤10:=fun x=>Nat.le_trans List.count_le_length (hE.few k hkn)
 refine⟨by rw[decL_len,List.length_set,h.len],fun x hx hm=>?_,fun x hx hm=>?_,fun x hx=>?_,fun x hx=>?_,fun a ha=>h.rng a ((mem_cutI hnd hp a).1 ha).1,by rw[cut_eq];exact h.inc.sublist (List.eraseIdx_sublist _ _)⟩
 ·obtain⟨h1,h2⟩:=(mem_cutI hnd hp _).1 hm;have hne:x≠k:=fun e=>h2 (by rw[hk,e])
  have h3:=ledS_cut gs hp x;rw[hk,Int.toNat_natCast]at h3;rw[hel x hx,if_neg hne,h.inn x hx h1];omega
 ·rw[hel x hx]
  by_cases e:x=k
  ·rw[if_pos e];omega
  ·rw[if_neg e];have:=h.o x hx fun hm2=>hm ((mem_cutI hnd hp _).2 ⟨hm2,fun e2=>e (by rw[hk]at e2;omega)⟩)
   omega
 ·rw[hel x hx,hlen];have h1:=h.low x hx;have h2:=hc x;have h3:l.length≤gs.length:=by
   have:l.length≤(Qh gs.length).length:=(Rd h.inc).length_le_of_subset fun a ha=>by
    obtain⟨j,hj,rfl⟩:=h.rng a ha;simp only[Qh,List.mem_map,List.mem_range];exact⟨j,hj,rfl⟩
   rw[Qd]at this;exact this
  split <;> omega
 ·rw[hel x hx];have:=h.top x hx
  split <;> omega
theorem Led.find{gs:List PNode}{l L:List Int}(h:Led gs l L){p k:Nat}(hp:l.findIdx? (fun b => !Hf gs l b)=some p)(hk:el l p=(k:Int)):p<l.length∧k<gs.length∧el L k=0∧∀j,j<k→el L j≠0:=by
 rw[List.findIdx?_eq_some_iff_getElem]at hp;obtain⟨hpl,hpt,hpn⟩:=hp;rw[←Km hpl,hk]at hpt;obtain⟨j,hj,e⟩:=h.rng _ (Zl hpl);rw[hk]at e;obtain rfl:k=j:=by omega
 have hm:(k:Int)∈l:=by rw[←hk];exact Zl hpl
 have h0:ledS gs l k=0:=(Me gs k l).2 (by simpa using hpt);refine⟨hpl,hj,by rw[h.inn k hj hm,h0];rfl,fun x hx hz=>?_⟩
 by_cases hxm:(x:Int)∈l
 ·rw[h.inn x (by omega) hxm]at hz;have hz2:Hf gs l (x:Int)=false:=(Me gs x l).1 (by omega);obtain⟨i,hi,ei⟩:=Gx hxm;have hip:i<p:=by
   rcases Nat.lt_trichotomy i p with h1|h1|h1
   ·exact h1
   ·subst h1;rw[hk]at ei;omega
   ·have:=List.pairwise_iff_getElem.1 h.inc p i hpl hi h1;rw[←Km hpl,←Km hi,hk,ei]at this;omega
  have h3:=hpn i hip;rw[←Km hi,ei,hz2]at h3
  simp at h3
 ·have:=h.o x (by omega) hxm
  omega
theorem Mr(ao:Option Addr)(cap:Nat)(ts:List LNode)(w:World)(hE:EdgesIn (ts.map Zz))(hR:¬(Zv (ts.map Zz)).length<(ts.map Zz).length)(hz:DIn Ja w.1.size w ao ts) :
  Calls prog 182 #[.slice ao ts.length cap] w fun e w'=>AnsI w (Zv (ts.map Zz)) e w':=by
 have h10:ts.length≤10:=by have:=hE.many;simpa using this
 have hcon:=l11Led_is ao cap ts w hE hz;have HE:=Zd hE;have hnode:Zi (∀k,k<ts.length→∃b off nxo nxc,ao=some ⟨b,off,none⟩∧b<w.1.size∧w.cell? ⟨b,off+k*6+5,none⟩=some (.slice nxo (nxP (ts.map Zz) k).length nxc)∧kI.In w.1.size w nxo (nxP (ts.map Zz) k)):=fun k hk=>by
  obtain⟨b,off,e,hb,hc⟩:=Qw hz.1 hk;have d6:=(hc k hk).2.2.2.2.2;have hin:=hz.2 k hk;have hev:nxP (ts.map Zz) k=(el ts k).2.2.2.2.2.2.2:=by rw[nxP,Jz hk];rfl
  rw[hev];exact⟨b,off,_,_,e,hb,d6,hin⟩
 obtain⟨R,hRR⟩:∃R,Zv (ts.map Zz)=R:=⟨_,rfl⟩;have HR0:Zi ((Qb (ts.map Zz) (Qh ts.length).length [] (Qh ts.length)).1=R):=by rw[Zi,Qd,←hRR,Zv,Zb]
 rw[hRR]at hR ⊢;rw[Zb]at hR;have HRL:=Zd hR;clear hz hE hR hRR;go_enter func182,ntmps182;go_wp2_with (go_at_call 217;refine hcon.mono ?_;rintro e w1 ⟨rfl,hX1,hB1⟩;have X1:=Zd hX1;clear hX1);have HS1:=Zd X1.o.size;have HL0:=Zd (Led.start HE.o);rw[Zb]at HL0
 go_loopw [4] (fun u wr=>∃(v:Value)(o l L:List Int),v=u∧o.length+l.length=ts.length∧Zi (kI.Own w1.1.size wr v o)∧Zi (Bx wr w.1.size (L.map (Value.int .i64)))∧Zi (Led (ts.map Zz) l L)∧Zi ((Qb (ts.map Zz) l.length o l).1=R)∧Below w.1.size w wr∧w1.1.size≤wr.1.size) (fun u _=>ts.length-lenOf u)
 case atStart=>exact⟨.slice none 0 0,[],Qh ts.length,_,rfl,by simp[Qd],Kind.Own.nil _ _ _,X1,HL0,HR0,hB1,Nat.le_refl _⟩
 case round =>
  clear HR0 HL0 X1 hB1;obtain⟨v,o,l,L,rfl,hol,hO,hX,hL,hR',hB,hsz⟩:=hrel;obtain⟨go,gc,rfl⟩:=Uu hO.o
  by_cases hlt:o.length<ts.length
  ·have hoi:(o.length:Int)<(ts.length:Int):=by omega
   cases hp:l.findIdx? (fun b => !Hf (ts.map Zz) l b)with
   |none =>
    exfalso
    have h1:=hR'.o;have h2:=HRL.o
    cases l with
    |nil=>simp at hol;omega
    |cons a r =>
     rw[List.length_cons,Qb,hp]at h1
     simp only at h1
     rw[←h1]at h2;exact h2 hlt
   |some p =>
    have hpl:p<l.length:=by rw[List.findIdx?_eq_some_iff_getElem]at hp;exact hp.1
    obtain⟨k,hk,hek⟩:=hL.o.rng _ (Zl hpl);rw[Zb]at hk;obtain⟨_,_,hk0,hkn⟩:=hL.o.find hp hek;have HK0:=Zd hk0;have HKN:=Zd hkn;have HR2:Zi ((Qb (ts.map Zz) (l.take p++l.drop (p+1)).length (o++[(k:Int)]) (l.take p++l.drop (p+1))).1=R):=by
     rw[Zi,←hR'.o];have e1:(l.take p++l.drop (p+1)).length=l.length-1:=by simp;omega
     obtain⟨m,hm⟩:∃m,l.length=m+1:=⟨l.length-1,by omega⟩;rw[e1,hm,Nat.add_sub_cancel,Qb,hp,←hek]
    have HL2:=Zd (hL.o.step HE.o hpl hek);have hLl:L.length=ts.length:=by have:=hL.o.len;rw[Zb]at this;exact this
    have HLB:=Zd (fun(x:Nat) (hx:x<ts.length)=>And.intro (hL.o.low x (by rw[Zb];exact hx)) (hL.o.top x (by rw[Zb];exact hx)));clear hp hk0 hkn hL hek;go_wp2
    go_loopw [5] (fun i wr2=>∃j:Nat,i=.int .i64 (j:Int)∧j≤k∧wr2=wr) (fun i _=>k-(intOf i).toNat)
    case atStart=>exact⟨0,rfl,Nat.zero_le _,rfl⟩
    case round =>
     rename_i wr3;obtain⟨j,rfl,hj,rfl⟩:=hrel;have hji:(j:Int)<(ts.length:Int):=by omega
     have cj:=hX.o.c j (Jq (by omega));have fj:=hX.o.f j (Jq (by omega))
     by_cases hjk:j<k
     ·have hne:(el L j != 0)=true:=by simpa using HKN.o j hjk
      generalize el L j=z at cj hne fj
      go_wp2;go_roundw
      case rel=>exact⟨j+1,by go_num,by omega,trivial⟩
      case measure=>simp[intOf];omega
     ·obtain rfl:j=k:=by omega
      rw[HK0.o]at cj;obtain⟨b,off,nxo,nxc,rfl,hb,c6,hI⟩:=hnode.o j hk;obtain⟨nx,hnx⟩:=nmd (nxP (ts.map Zz) j);rw[←hnx]at c6 hI;have HI:=Zd hI;have HNX:=Zd hnx;have hnl:nx.length≤10:=by rw[hnx];exact HE.o.few j (by rw[Zb];exact hk)
      have HRG:Zi (∀x∈nx,∃i:Nat,i<ts.length∧x=(i:Int)):=fun x hx=>by
       rw[hnx]at hx;obtain⟨i,hi,e⟩:=HE.o.rng j (by rw[Zb];exact hk) x hx;rw[Zb]at hi;exact⟨i,hi,e⟩
      rw[←hnx]at HL2;have hBV:Below w.1.size w (wr.setCell ⟨w.1.size,j,none⟩ (.int .i64 (-1))):=hB.setCell (p:=⟨w.1.size,j,none⟩) (Nat.le_refl _) _;have XV:Zi (Bx (wr.setCell ⟨w.1.size,j,none⟩ (.int .i64 (-1))) w.1.size ((L.set j (-1)).map (Value.int .i64))):=by rw[Zi,Yr];exact hX.o.set j _
      have OV:Zi (kI.Own w1.1.size (wr.setCell ⟨w.1.size,j,none⟩ (.int .i64 (-1))) (.slice go o.length gc) o):=hO.o.setBelow (a:=⟨w.1.size,j,none⟩) (by simpa using HS1.o) _;have HA:Zi (kI.Own w1.1.size ((wr.setCell ⟨w.1.size,j,none⟩ (.int .i64 (-1))).alloc (.cells #[.int .i64 (j:Int)] 3)) (.slice go o.length gc) o):=OV.o.below (Zk _ _);have HXA:=Zd (XV.o.alloc (.cells #[.int .i64 (j:Int)] 3));have HN:Zi (kI.In (wr.1.size+1) ((wr.setCell ⟨w.1.size,j,none⟩ (.int .i64 (-1))).alloc (.cells #[.int .i64 (j:Int)] 3)) (some ⟨wr.1.size,0,none⟩) [(j:Int)]):=Kc (by omega) ((Bx.new (w:=wr.setCell ⟨w.1.size,j,none⟩ (.int .i64 (-1))) [.int .i64 (j:Int)] 3 (by simp[World.setCell])).c 0 rfl);have hBa:Below w.1.size w ((wr.setCell ⟨w.1.size,j,none⟩ (.int .i64 (-1))).alloc (.cells #[.int .i64 (j:Int)] 3)):=Zx hBV _;have HSW:Zi (w.1.size≤w1.1.size):=by have:=HS1.o;rw[Zi];omega
      obtain⟨o2,ho2⟩:=nmd (o++[(j:Int)]);have hleno:o2.length=o.length+1:=by rw[ho2];simp
      have HLN:=Zd hleno;have hll:o.length+1≤4194304:=by omega
      rw[←ho2]at HR2;have HO2:=Zd ho2;clear hnx hI hBV OV XV ho2 hO hX hleno;go_wp2_with (at_builtin;refine Kind.app Vq ((wr.setCell ⟨w.1.size,j,none⟩ (.int .i64 (-1))).alloc (.cells #[.int .i64 (j:Int)] 3)) rfl (.tmp 25) (.tmp 27) rfl w1.1.size (.slice go o.length gc) o rfl HA.o (by simp[World.setCell];omega) (some ⟨wr.1.size,0,none⟩) [(j:Int)] 1 1 rfl rfl (by simp) _ HN.o hll ?_;intro v' w' hO' hB' hG' hn';rw[←HO2.o]at hO';obtain⟨g2,c2,rfl⟩:=Uu hO';have hB2:Below w.1.size w w':=hBa.trans (hB'.mono HSW.o);have O2:=Zd hO';have X2:=Zd (HXA.o.below hB' (by exact HS1.o));have d6:=(hB2.cell (p:=⟨b,off+j*6+5,none⟩) hb).trans c6;have hs2:w1.1.size≤w'.1.size:=(by have:=hB'.size;simp[World.setCell]at this;omega);clear hO' hB' hG' hn')
      go_loopw [35] (fun i wr=>∃m:Nat,i=.int .i64 (m:Int)∧m≤nx.length∧Zi (Bx wr w.1.size ((decL (L.set j (-1)) (nx.take m)).map (Value.int .i64)))∧Zi (kI.Own w1.1.size wr (.slice g2 o2.length c2) o2)∧Below w.1.size w wr∧w1.1.size≤wr.1.size) (fun i _=>nx.length-(intOf i).toNat)
      case atStart=>exact⟨0,rfl,Nat.zero_le _,by rw[List.take_zero,decL_nil];exact X2,O2,hB2,hs2⟩
      case round =>
       clear hB2 X2 O2 hs2 d6 hB hBa HA HXA HN;obtain⟨m,rfl,hm,hX,hO,hB,hs⟩:=hrel
       by_cases hmk:m<nx.length
       ·obtain⟨nb,noff,rfl,hnb,hnc⟩:=Zo HI.o hmk;have cm:=(hB.cell (p:=⟨nb,noff+m,none⟩) hnb).trans (hnc m hmk);obtain⟨i,hi,hx⟩:=HRG.o (el nx m) (Zl hmk);rw[hx]at cm;have HXJ:=Zd hx;clear hx hnc;have hmi:(m:Int)<(nx.length:Int):=by omega
        have hii:(i:Int)<(ts.length:Int):=by omega
        have hil:i<(L.set j (-1)).length:=by rw[List.length_set];omega
        have ci:=hX.o.c i (Jq (by rw[decL_len];exact hil));have fi:=hX.o.f i (Jq (by rw[decL_len];exact hil));rw[decL_el hil]at ci;have hq2:(nx.take m).count (i:Int)≤10:=Nat.le_trans List.count_le_length (by simp;omega);obtain⟨hq1,hq3⟩:=HLB.o i hi;rw[Zb]at hq1;have hq4 : -1000≤el (L.set j (-1)) i∧el (L.set j (-1)) i≤1000:=by
         rw[Bn (by omega)]
         split <;> omega
        have HST:=Zd (decL_step (L:=L.set j (-1)) (j:=i) (nx.take m));rw[←HXJ.o,←Zy hmk]at HST;rw[HXJ.o]at HST;obtain⟨z,hz⟩:∃z:Int,z=el (L.set j (-1)) i-((nx.take m).count (i:Int):Nat):=⟨_,rfl⟩;rw[←hz]at HST ci;have hz1 : -2000≤z∧z≤2000:=by omega
        clear hz hq1 hq2 hq3 hq4 hil;have HS:=Zd (hX.o.set i (.int .i64 (z-1)));rw[←Yr,HST.o]at HS;have hB3:=hB.setCell (p:=⟨w.1.size,i,none⟩) (Nat.le_refl _) (.int .i64 (z-1));have O3:=Zd (hO.o.setBelow (a:=⟨w.1.size,i,none⟩) (by simpa using HS1.o) (.int .i64 (z-1)));go_wp2;go_roundw
        case rel=>exact⟨m+1,by go_num,by omega,HS,O3,hB3,by simpa[World.setCell]using hs⟩
        case measure=>simp[intOf];omega
       ·obtain rfl:m=nx.length:=by omega
        rw[List.take_length]at hX;go_wp2;go_roundw
        case rel=>exact⟨_,o2,l.take p++l.drop (p+1),_,rfl,by rw[HLN.o];simp;omega,hO,hX,HL2,HR2,hB,hs⟩
        case measure=>have:=HLN.o;simp[lenOf];omega
  ·have hl0:l=[]:=List.length_eq_zero_iff.1 (by omega);have HRO:Zi (o=R):=by rw[Zi,←hR'.o,hl0];rfl
   obtain⟨go',gc',e1,_,hFF⟩:=hO.o.fresh;obtain⟨rfl,rfl⟩:go=go'∧gc=gc':=by simp at e1;exact e1
   have HF:=Zd (hFF.wide (lo':=w.1.size) (hi':=wr.1.size) (by have:=HS1.o;omega) (Nat.le_refl _));have hoe:o.length=ts.length:=by omega
   clear hFF e1 hl0;go_wp2;go_ret;rw[←HRO.o];exact⟨⟨_,_,rfl,HF.o⟩,hB⟩
theorem Gf(k a b:Int):0≤Uf k a b∧Uf k a b≤3:=by
 unfold Uf
 split
 ·next h =>
  split
  ·next h3=>subst h3;simp[Zg]at h;omega
  ·omega
 ·omega
def Dc(wd nx:List Int):Int:=(nx.map fun x=>el wd x.toNat).sum
theorem sumW_nil(wd:List Int):Dc wd []=0:=rfl
theorem sumW_succ{wd nx:List Int}{m:Nat}(hm:m<nx.length):Dc wd (nx.take (m+1))=Dc wd (nx.take m)+el wd (el nx m).toNat:=by rw[Dc,Zy hm];simp[Dc]
def Dg(gs:List PNode)(wd:List Int)(k:Nat):Int:=Uf (el gs k).2.1 (el gs k).2.2.1 (el gs k).2.2.2.1*(if(nxP gs k).length=0 then 1 else Dc wd (nxP gs k))
def Vh(gs:List PNode)(ro:List Int):Nat→List Int
 |0=>List.replicate gs.length 0
 |t+1=>(Vh gs ro t).set (el ro t).toNat (Dg gs (Vh gs ro t) (el ro t).toNat)
theorem Kk(gs:List PNode)(ro:List Int):∀t,(Vh gs ro t).length=gs.length
 |0=>by simp[Vh]
 |t+1=>by simp[Vh,Kk gs ro t]
def Nf:List Int→Int
 | []=>0
 |x::r=>max x (Nf r)
theorem maxL_nn:∀l,0≤Nf l
 | []=>Int.le_refl _
 |x::r=>by have:=maxL_nn r;simp only[Nf];omega
theorem maxL_set:∀(l:List Int)(k:Nat)(v:Int),k<l.length→el l k=0→0≤v→Nf (l.set k v)=max (Nf l) v
 | [],k,v,hk,_,_=>by simp at hk
 |x::r,0,v,_,h0,hv=>by
  have hx:x=0:=by simpa[el]using h0
  have:=maxL_nn r;simp only[List.set_cons_zero,Nf,hx];omega
 |x::r,k+1,v,hk,h0,hv=>by
  have ih:=maxL_set r k v (by simpa using hk) (by rw[Vl]at h0;exact h0) hv;simp only[List.set_cons_succ,Nf,ih];omega
theorem maxL_snoc:∀(l:List Int)(x:Int),0≤x→Nf (l++[x])=max (Nf l) x
 | [],x,hx=>by simp only[List.nil_append,Nf];omega
 |y::r,x,hx=>by simp only[List.cons_append,Nf,maxL_snoc r x hx];omega
theorem maxL_zero(n:Nat):Nf (List.replicate n 0)=0:=by
 induction n with
 |zero=>rfl
 |succ n ih=>simp only[List.replicate_succ,Nf,ih];rfl
def Bnd(B:Int)(l:List Int):Prop:=∀j,j<l.length→0≤el l j∧el l j≤B
theorem Hm{wd:List Int}{B:Int}(hb:Bnd B wd)(hB:0≤B):∀nx:List Int,(∀x∈nx,∃j:Nat,j<wd.length∧x=(j:Int))→0≤Dc wd nx∧Dc wd nx≤B*(nx.length:Int)
 | [],_=>by simp[Dc]
 |x::r,h=>by
  have ih:=Hm hb hB r fun y hy=>h y (by simp[hy])
  obtain⟨j,hj,rfl⟩:=h x (by simp);have h1:=hb j hj;have e:Dc wd ((j:Int)::r)=el wd j+Dc wd r:=by simp[Dc]
  rw[e,List.length_cons]
  push_cast
  rw[Int.mul_add,Int.mul_one]
  omega
structure Ro(gs:List PNode)(ro:List Int):Prop where
 rng:∀x∈ro,∃j:Nat,j<gs.length∧x=(j:Int)
 one:ro.Nodup
 len:ro.length≤10
theorem mul_le3{f z B:Int}(h0:0≤f)(h3:f≤3)(hz:0≤z)(hB:z≤B):0≤f*z∧f*z≤3*B:=by
 rcases(show f=0∨f=1∨f=2∨f=3 from by omega)with rfl|rfl|rfl|rfl <;> omega
theorem Hh{gs:List PNode}(hE:EdgesIn gs){wd:List Int}{B:Int}(hl:wd.length=gs.length)(hb:Bnd B wd)(hB:1≤B){k:Nat}(hk:k<gs.length):0≤Dg gs wd k∧Dg gs wd k≤30*B:=by
 have hf:=Gf (el gs k).2.1 (el gs k).2.2.1 (el gs k).2.2.2.1;have hs:=Hm hb (by omega) (nxP gs k) fun x hx=>by rw[hl];exact hE.rng k hk x hx
 have hn:=hE.few k hk;have hz:0≤(if(nxP gs k).length=0 then 1 else Dc wd (nxP gs k))∧(if(nxP gs k).length=0 then 1 else Dc wd (nxP gs k))≤10*B:=by
  split
  ·omega
  ·refine⟨hs.1,Int.le_trans hs.2 ?_⟩;rw[Int.mul_comm 10 B];exact Int.mul_le_mul_of_nonneg_left (by omega) (by omega)
 have:=mul_le3 hf.1 hf.2 hz.1 hz.2
 unfold Dg
 omega
theorem wdAt_bnd{gs:List PNode}(hE:EdgesIn gs){ro:List Int}(hr:∀x∈ro,∃j:Nat,j<gs.length∧x=(j:Int)):∀t,t≤ro.length→Bnd (30 ^ t) (Vh gs ro t)
 |0,_=>fun j hj=>by simp[Vh]at hj;simp[Vh,el,hj]
 |t+1,ht=>fun j hj=>by
  have ih:=wdAt_bnd hE hr t (by omega);have hp:(1:Int)≤30 ^ t:=by have:0<(30:Int) ^ t:=Int.pow_pos (by omega);omega
  obtain⟨k,hk,ek⟩:=hr _ (Zl (show t<ro.length by omega));have hn:=Hh hE (Kk gs ro t) ih hp hk;have hj':j<gs.length:=by rw[Kk]at hj;exact hj
  have e30:(30:Int) ^ (t+1)=30*30 ^ t:=by rw[Int.pow_succ];omega
  rw[Vh,ek,Int.toNat_natCast,Bn (by rw[Kk];exact hk),e30]
  split
  ·exact hn
  ·have:=ih j (by rw[Kk];exact hj');omega
theorem pow30_le:∀t,t≤10→(30:Int) ^ t≤590490000000000:=fun t ht=>by
 rcases(show t=0∨t=1∨t=2∨t=3∨t=4∨t=5∨t=6∨t=7∨t=8∨t=9∨t=10 from by omega)with rfl|rfl|rfl|rfl|rfl|rfl|rfl|rfl|rfl|rfl|rfl <;> decide
theorem Hg{gs:List PNode}(hE:EdgesIn gs){ro:List Int}(hr:∀x∈ro,∃j:Nat,j<gs.length∧x=(j:Int))(hl:ro.length≤10){t:Nat}(ht:t≤ro.length):Bnd 590490000000000 (Vh gs ro t):=fun j hj=>by
 have h1:=wdAt_bnd hE hr t ht j hj;have h2:=pow30_le t (by omega)
 omega
theorem wdAt_zero{gs:List PNode}{ro:List Int}(hr:Ro gs ro){k:Nat}(hk:k<gs.length):∀t,t≤ro.length→(k:Int)∉ro.take t→el (Vh gs ro t) k=0
 |0,_,_=>by simp[Vh,el,hk]
 |t+1,ht,hn=>by
  rw[Zy (by omega)]at hn;obtain⟨j,hj,ej⟩:=hr.rng _ (Zl (show t<ro.length by omega));have hne:k≠j:=fun e=>hn (by rw[ej,e];simp)
  rw[Vh,ej,Int.toNat_natCast,Bn (by rw[Kk];exact hj),if_neg hne];exact wdAt_zero hr hk t (by omega) fun h=>hn (by simp[h])
theorem wdAt_max{gs:List PNode}(hE:EdgesIn gs){ro:List Int}(hr:Ro gs ro){t k:Nat}(ht:t<ro.length)(ek:el ro t=(k:Int)):Nf (Vh gs ro (t+1))=max (Nf (Vh gs ro t)) (Dg gs (Vh gs ro t) k):=by
 obtain⟨j,hj,e⟩:=hr.rng _ (Zl ht);rw[ek]at e;obtain rfl:k=j:=by omega
 have hb:=Hh hE (Kk gs ro t) (wdAt_bnd hE hr.rng t (by omega)) (by have:0<(30:Int) ^ t:=Int.pow_pos (by omega);omega) hj;have h0:=wdAt_zero hr hj t (by omega) fun h=>Nz ht hr.one (by rw[ek];exact h)
 rw[Vh,ek,Int.toNat_natCast];exact maxL_set _ _ _ (by rw[Kk];exact hj) h0 hb.1
theorem Gl(gs:List PNode):∀(n:Nat)(o l:List Int),((Qb gs n o l).1++(Qb gs n o l).2).Perm (o++l)
 |0,o,l=>List.Perm.refl _
 |n+1,o,l=>by
  rw[Qb]
  cases hp:l.findIdx? (fun b => !Hf gs l b)with
  |none=>exact List.Perm.refl _
  |some k =>
   have hk:k<l.length:=by rw[List.findIdx?_eq_some_iff_getElem]at hp;exact hp.1
   refine(Gl gs n _ _).trans ?_;have hs:=Pp hk;rw[List.append_assoc];refine List.Perm.append_left o ?_;have h:=(List.perm_middle (a:=el l k) (l₁:=l.take k) (l₂:=l.drop (k+1))).symm;rw[←hs]at h;exact h
theorem orderP_ro{gs:List PNode}(h10:gs.length≤10):Ro gs (Zv gs).reverse:=by
 have hp:=Gl gs gs.length [] (Qh gs.length);rw[List.nil_append]at hp;have hnd:(Qh gs.length).Nodup:=Rd (Mx _);have hnd2:=(hp.nodup_iff.2 hnd);rw[List.nodup_append]at hnd2;refine⟨fun x hx=>?_,by rw[List.Nodup,List.pairwise_reverse];exact List.Pairwise.imp Ne.symm hnd2.1,?_⟩
 ·exact Xd (hp.subset (List.mem_append_left _ (List.mem_reverse.1 hx)))
 ·rw[List.length_reverse];have h2:=Dk gs gs.length [] (Qh gs.length);rw[Zv];simp at h2;omega
theorem Nx{l:List Int}{t:Nat}(ht:t<l.length):el l.reverse t=el l (l.length-1-t):=by
 rw[Km (by simpa using ht),Km (by omega),List.getElem_reverse]
def wdOf(gs:List PNode)(ro:List Int):List Int:=ro.foldl (fun wd y=>wd.set y.toNat (Dg gs wd y.toNat)) (List.replicate gs.length 0)
theorem wdOf_snoc(gs:List PNode)(ro:List Int)(y:Int):wdOf gs (ro++[y])=(wdOf gs ro).set y.toNat (Dg gs (wdOf gs ro) y.toNat):=by rw[wdOf,List.foldl_append];rfl
theorem wdOf_at(gs:List PNode)(ro:List Int):∀t,t≤ro.length→Vh gs ro t=wdOf gs (ro.take t)
 |0,_=>by rw[List.take_zero];rfl
 |t+1,ht=>by rw[Zy (by omega),wdOf_snoc,Vh,wdOf_at gs ro t (by omega)]
theorem wdOf_all(gs:List PNode)(ro:List Int):Vh gs ro ro.length=wdOf gs ro:=by rw[wdOf_at gs ro _ (Nat.le_refl _),List.take_length]
def Ue(gs:List PNode):Int:=Nf (Vh gs (Zv gs).reverse (Zv gs).length)
theorem Gb(ao:Option Addr)(cap:Nat)(ts:List LNode)(w:World)(hE:EdgesIn (ts.map Zz))(hR:¬(Zv (ts.map Zz)).length<(ts.map Zz).length)(hz:DIn Ja w.1.size w ao ts) :
  Calls prog 176 #[.slice ao ts.length cap] w fun e w'=>e=.returned (.int .i64 (Ue (ts.map Zz)))∧Below w.1.size w w':=by
 obtain⟨i0,hi,hz0,hz1,hz2⟩:=info_parts Tryz.info3;have h10:ts.length≤10:=by have:=hE.many;simpa using this
 have hcon:=Mr ao cap ts w hE hR hz;have HRO:=Zd (orderP_ro (gs:=ts.map Zz) (by rw[Zb];exact h10));have HE:=Zd hE;have hnode:Zi (∀k,k<ts.length→∃b off nxo nxc,ao=some ⟨b,off,none⟩∧b<w.1.size∧w.cell? ⟨b,off+k*6+5,none⟩=some (.slice nxo (nxP (ts.map Zz) k).length nxc)∧kI.In w.1.size w nxo (nxP (ts.map Zz) k)∧w.cell? ⟨b,off+k*6+1,none⟩=some (.int .i64 (el (ts.map Zz) k).2.1)∧w.cell? ⟨b,off+k*6+2,none⟩=some (.int .i64 (el (ts.map Zz) k).2.2.1)∧w.cell? ⟨b,off+k*6+3,none⟩=some (.int .i64 (el (ts.map Zz) k).2.2.2.1)):=fun k hk=>by
  obtain⟨b,off,e,hb,hc⟩:=Qw hz.1 hk;have d:=hc k hk;have hin:=hz.2 k hk;have hev:nxP (ts.map Zz) k=(el ts k).2.2.2.2.2.2.2:=by rw[nxP,Jz hk];rfl
  rw[hev,Jz hk];exact⟨b,off,_,_,e,hb,d.2.2.2.2.2,hin,d.2.1,d.2.2.1,d.2.2.2.1⟩
 have HW:Zi (Ue (ts.map Zz)=Nf (Vh (ts.map Zz) (Zv (ts.map Zz)).reverse (Zv (ts.map Zz)).length)):=rfl;obtain⟨R,hRR⟩:∃R,Zv (ts.map Zz)=R:=⟨_,rfl⟩;rw[hRR]at hcon HRO HW;have hRl:R.length≤10:=by have:=HRO.o.len;simpa using this
 obtain⟨gs,hgs⟩:=nmd (ts.map Zz);have hgl:gs.length=ts.length:=by rw[hgs,Zb]
 rw[←hgs]at HRO HE hnode HW ⊢;have HGL:=Zd hgl;clear hz hE hR hRR hgs;go_enter func176,ntmps176;go_wp2_with (first
  |(go_at_call 182;refine hcon.mono ?_;rintro e w1 ⟨⟨ro,rc,rfl,hF1⟩,hB1⟩;have F1:=Zd hF1;clear hF1)
  |(at_make;refine wpList_make_full _ rfl _ _ 25 rfl w1.1.size 3 i0 (.int .i64 0) 1 underlying25 hi hz0 hz1 .i64 .i64 _ _ ts.length rfl rfl rfl rfl (by rw[hz2];omega) (by unfold maxLen;omega) (Nat.le_refl _) ?_;intro w2 hown hgrow;have hB2:Below w1.1.size w1 w2:=(Below.refl _ _).grown hgrow (Nat.le_refl _) (fun k e=>by cases e);have HO:=Zd (Hs hown);clear hown hgrow))
 have HO1:Zi (Bx w2 w1.1.size ((Vh gs R.reverse 0).map (Value.int .i64))):=by
  have h:Bx w2 w1.1.size (madeCells #[Value.int .i64 0] (ts.length*1)).toList:=HO.o;rw[toList_madeCells_one,Nat.mul_one]at h;rw[Zi,Vh,rep_mapI,HGL.o];exact h
 clear HO;have FI:=Zd F1.o.in
 go_loopw [5,6] (fun v j wr=>∃(i t:Nat)(z:Int),i+t=R.length∧j=.int .i64 ((i:Int)-1)∧v=.int .i64 z∧z=Nf (Vh gs R.reverse t)∧Zi (Bx wr w1.1.size ((Vh gs R.reverse t).map (Value.int .i64)))∧Below w1.1.size w1 wr) (fun _ j _=>(intOf j+1).toNat)
 case atStart=>exact⟨R.length,0,0,rfl,rfl,rfl,by rw[Vh,maxL_zero],HO1,hB2⟩
 case round =>
  clear HO1 hB2;obtain⟨i,t,z,hit,rfl,rfl,hz,hO,hB⟩:=hrel;have hBw:Below w.1.size w wr:=hB1.trans (hB.mono hB1.size);have hbx:=hO.o.size
  cases i with
  |zero =>
   obtain rfl:t=R.length:=by omega
   have HZW:Zi (z=Ue gs):=by rw[Zi,HW.o,hz]
   clear hz;go_wp2;go_ret;exact⟨Xc HZW.o,hBw⟩
  |succ i =>
   have hlt:t<R.length:=by omega
   have htr:t<R.reverse.length:=by rw[List.length_reverse];exact hlt
   obtain⟨k,hk,ek⟩:=HRO.o.rng _ (Zl htr);have ek2:=ek;rw[Nx hlt,show R.length-1-t=i from by omega]at ek2;have HMX:=Zd (wdAt_max HE.o HRO.o htr ek);have HSC:Zi (Vh gs R.reverse (t+1)=(Vh gs R.reverse t).set k (Dg gs (Vh gs R.reverse t) k)):=by rw[Zi,Vh,ek,Int.toNat_natCast]
   have HNB:=Zd (Hh HE.o (Kk gs R.reverse t) (Hg HE.o HRO.o.rng HRO.o.len (t:=t) (by rw[List.length_reverse];omega)) (by omega) hk);have HBG:=Zd (Hg HE.o HRO.o.rng HRO.o.len (t:=t) (by rw[List.length_reverse];omega));have hWl:=Kk gs R.reverse t;obtain⟨b0,off0,rfl,hb0,hc0⟩:=Zo FI.o (k:=i) (by omega);have cr:=(hB.cell (p:=⟨b0,off0+i,none⟩) hb0).trans (hc0 i (by omega));rw[ek2]at cr;clear ek ek2 hc0;obtain⟨wd,hwd⟩:=nmd (Vh gs R.reverse t);rw[←hwd]at HMX HSC HNB HBG hWl hO hz;have HZ:=Zd hz;clear hwd hz;have hkt:k<ts.length:=by rw[←hgl];exact hk
   obtain⟨b,off,nxo,nxc,rfl,hb,c6,hI,c1,c2,c3⟩:=hnode.o k hkt;have d6:=(hBw.cell (p:=⟨b,off+k*6+5,none⟩) hb).trans c6;have d1:=(hBw.cell (p:=⟨b,off+k*6+1,none⟩) hb).trans c1;have d2:=(hBw.cell (p:=⟨b,off+k*6+2,none⟩) hb).trans c2;have d3:=(hBw.cell (p:=⟨b,off+k*6+3,none⟩) hb).trans c3;have hrg:=HE.o.rng k hk;have hfew:=HE.o.few k hk;have hwn:Dg gs wd k=Uf (el gs k).2.1 (el gs k).2.2.1 (el gs k).2.2.2.1*(if(nxP gs k).length=0 then 1 else Dc wd (nxP gs k)):=rfl;obtain⟨nx,hnx⟩:=nmd (nxP gs k);rw[←hnx]at d6 hI hrg hfew hwn
   generalize(el gs k).2.1=kd at d1 hwn
   generalize(el gs k).2.2.1=sa at d2 hwn
   generalize(el gs k).2.2.2.1=sb at d3 hwn
   obtain⟨v,hv⟩:=nmd (Dg gs wd k);rw[←hv]at HMX HSC HNB hwn;have HWN:=Zd hwn;have HI:=Zd (hI.later hBw);have HRG:=Zd hrg;have hki:(k:Int)<(ts.length:Int):=by omega
   have hii:(i:Int)<(R.length:Int):=by omega
   have e1:(((i+1:Nat):Int)-1)=(i:Int):=by omega
   have hv0:=HNB.o;rw[e1];clear hnx c6 c1 c2 c3 hI hrg hwn hv e1;go_wp2
   go_loopw [8,33] (fun u j wr2=>∃(m:Nat)(s:Int),j=.int .i64 (m:Int)∧u=.int .i64 s∧m≤nx.length∧s=Dc wd (nx.take m)∧wr2=wr) (fun _ j _=>nx.length-(intOf j).toNat)
   case atStart=>exact⟨0,0,rfl,rfl,Nat.zero_le _,by rw[List.take_zero,sumW_nil],rfl⟩
   case round =>
    rename_i wr3;obtain⟨m,s,rfl,rfl,hm,hs,rfl⟩:=hrel;have hsb:=Hm HBG.o (by omega) (nx.take m) (fun x hx=>by rw[hWl];exact HRG.o x (List.mem_of_mem_take hx));rw[←hs]at hsb;have hlm:(nx.take m).length=m:=by simp;omega
    rw[hlm]at hsb
    by_cases hmk:m<nx.length
    ·have HSS:=Zd (sumW_succ (wd:=wd) hmk);obtain⟨nb,noff,rfl,hnb,hnc⟩:=Zo HI.o hmk;have cm:=hnc m hmk;obtain⟨j,hj,hx⟩:=HRG.o (el nx m) (Zl hmk);rw[hx]at cm HSS;rw[Int.toNat_natCast]at HSS;have hji:(j:Int)<(ts.length:Int):=by omega
     have cj:=hO.o.c j (Jq (by omega));have hjb:=HBG.o j (by omega)
     generalize el wd j=y at cj HSS hjb
     have hmi:(m:Int)<(nx.length:Int):=by omega
     have hs2:s+y=Dc wd (nx.take (m+1)):=by rw[HSS.o,hs]
     have HS2:=Zd hs2;clear hx hnc hs2 hs hlm;go_wp2;go_roundw
     case rel=>exact⟨m+1,s+y,by go_num,rfl,by omega,HS2.o,trivial⟩
     case measure=>simp[intOf];omega
    ·obtain rfl:m=nx.length:=by omega
     rw[List.take_length]at hs;have HS:=Zd hs;clear hs hlm hmk;have hfr:=Gf kd sa sb;obtain⟨f,hf⟩:=nmd (Uf kd sa sb);rw[←hf]at hfr HWN;have HF:=Zd hf;clear hf;have ck:=hO.o.c k (Jq (by omega));have fk:=hO.o.f k (Jq (by omega))
     by_cases h0:nx.length=0
     ·have hvf:v=f:=by rw[HWN.o,if_pos h0,Int.mul_one]
      subst hvf;clear HWN
      by_cases hvz:z<v
      ·have hvz':decide (z<v)=true:=by simpa using hvz
       have HMM:Zi (v=Nf (Vh gs R.reverse (t+1))):=by rw[Zi,HMX.o,←HZ.o];omega
       clear hvz;go_wp2_with (go_at_call 212;refine(Yl kd sa sb _ v HF.o.symm).mono ?_;rintro e w5 ⟨rfl,hb5⟩;have hB5:Below w1.1.size w1 w5:=hB.trans (hb5.mono hB.size);have O5:=Zd (hO.o.later hb5);have ck5:=(hO.o.later hb5).c k (Jq (by omega));have fk5:=(hO.o.later hb5).f k (Jq (by omega));have OS:Zi (Bx (w5.setCell ⟨w1.1.size,k,none⟩ (.int .i64 (v))) w1.1.size ((Vh gs R.reverse (t+1)).map (Value.int .i64))):=(by rw[Zi,HSC.o,Yr];exact(hO.o.later hb5).set k (.int .i64 (v)));have BS:=hB5.setCell (p:=⟨w1.1.size,k,none⟩) (Nat.le_refl _) (.int .i64 (v));clear hb5);go_roundw
       case rel=>exact⟨i,t+1,v,by omega,rfl,rfl,HMM.o,OS,BS⟩
       case measure=>simp[intOf]
      ·have hvz':decide (z<v)=false:=by simpa using hvz
       have HMM:Zi (z=Nf (Vh gs R.reverse (t+1))):=by rw[Zi,HMX.o,←HZ.o];omega
       clear hvz;go_wp2_with (go_at_call 212;refine(Yl kd sa sb _ v HF.o.symm).mono ?_;rintro e w5 ⟨rfl,hb5⟩;have hB5:Below w1.1.size w1 w5:=hB.trans (hb5.mono hB.size);have O5:=Zd (hO.o.later hb5);have ck5:=(hO.o.later hb5).c k (Jq (by omega));have fk5:=(hO.o.later hb5).f k (Jq (by omega));have OS:Zi (Bx (w5.setCell ⟨w1.1.size,k,none⟩ (.int .i64 (v))) w1.1.size ((Vh gs R.reverse (t+1)).map (Value.int .i64))):=(by rw[Zi,HSC.o,Yr];exact(hO.o.later hb5).set k (.int .i64 (v)));have BS:=hB5.setCell (p:=⟨w1.1.size,k,none⟩) (Nat.le_refl _) (.int .i64 (v));clear hb5);go_roundw
       case rel=>exact⟨i,t+1,z,by omega,rfl,rfl,HMM.o,OS,BS⟩
       case measure=>simp[intOf]
     ·have hvf:v=f*s:=by rw[HWN.o,if_neg h0,HS.o]
      subst hvf;clear HWN
      by_cases hvz:z<f*s
      ·have hvz':decide (z<f*s)=true:=by simpa using hvz
       have HMM:Zi (f*s=Nf (Vh gs R.reverse (t+1))):=by rw[Zi,HMX.o,←HZ.o];omega
       clear hvz;go_wp2_with (go_at_call 212;refine(Yl kd sa sb _ f HF.o.symm).mono ?_;rintro e w5 ⟨rfl,hb5⟩;have hB5:Below w1.1.size w1 w5:=hB.trans (hb5.mono hB.size);have O5:=Zd (hO.o.later hb5);have ck5:=(hO.o.later hb5).c k (Jq (by omega));have fk5:=(hO.o.later hb5).f k (Jq (by omega));have OS:Zi (Bx (w5.setCell ⟨w1.1.size,k,none⟩ (.int .i64 (f*s))) w1.1.size ((Vh gs R.reverse (t+1)).map (Value.int .i64))):=(by rw[Zi,HSC.o,Yr];exact(hO.o.later hb5).set k (.int .i64 (f*s)));have BS:=hB5.setCell (p:=⟨w1.1.size,k,none⟩) (Nat.le_refl _) (.int .i64 (f*s));clear hb5);go_roundw
       case rel=>exact⟨i,t+1,f*s,by omega,rfl,rfl,HMM.o,OS,BS⟩
       case measure=>simp[intOf]
      ·have hvz':decide (z<f*s)=false:=by simpa using hvz
       have HMM:Zi (z=Nf (Vh gs R.reverse (t+1))):=by rw[Zi,HMX.o,←HZ.o];omega
       clear hvz;go_wp2_with (go_at_call 212;refine(Yl kd sa sb _ f HF.o.symm).mono ?_;rintro e w5 ⟨rfl,hb5⟩;have hB5:Below w1.1.size w1 w5:=hB.trans (hb5.mono hB.size);have O5:=Zd (hO.o.later hb5);have ck5:=(hO.o.later hb5).c k (Jq (by omega));have fk5:=(hO.o.later hb5).f k (Jq (by omega));have OS:Zi (Bx (w5.setCell ⟨w1.1.size,k,none⟩ (.int .i64 (f*s))) w1.1.size ((Vh gs R.reverse (t+1)).map (Value.int .i64))):=(by rw[Zi,HSC.o,Yr];exact(hO.o.later hb5).set k (.int .i64 (f*s)));have BS:=hB5.setCell (p:=⟨w1.1.size,k,none⟩) (Nat.le_refl _) (.int .i64 (f*s));clear hb5);go_roundw
       case rel=>exact⟨i,t+1,z,by omega,rfl,rfl,HMM.o,OS,BS⟩
       case measure=>simp[intOf]
end Go.Proofs.YtdacedbfnlkghaaGreatDoor