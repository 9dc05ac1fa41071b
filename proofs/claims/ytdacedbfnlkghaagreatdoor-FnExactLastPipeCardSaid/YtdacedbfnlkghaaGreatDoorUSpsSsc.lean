/- A script played: the program. How long a script's answers are, plainly. A script begins: the specification. A move of a script: the specification. No conditions but those written. -/
import Derived.Test.YtdacedbfnlkghaaGreatDoorUSsaSkt
namespace Go.Proofs.YtdacedbfnlkghaaGreatDoor
set_option maxHeartbeats 8000000
set_option maxRecDepth 100000
open Go.RowKit Go.Proofs.Tryz
theorem ScW.later{q:Nat}{W W':World}{st:SS}{O:Nat→Prop}(h:ScW q W st O)(hb:Below W.1.size W W'):ScW q W' st O :=
 h.keepT (T:=kS.ty) hb.size (fun b hO=>hb.block b (h.lt b hO).2) (fun k cur e s hk _=>hb.block k (Array.getElem?_eq_some_iff.1 hk).1) (by decide) (by decide)
theorem ScW.grew{q lo:Nat}{W W':World}{st:SS}{O:Nat→Prop}{v:Value}{xs:List ByteArray}(h:ScW q W st O)(ho:kS.Own lo W v xs)(ha:∀b,v.ownBlock=some b→¬O b)(hg:W.grownBy W' v.ownBlock):ScW q W' st O :=
 h.keepT (T:=kS.ty) hg.size (fun b hO=>hg.block b (h.lt b hO).2 (fun e=>ha b e.symm hO)) (fun k cur e s hk hne=>hg.block k (Array.getElem?_eq_some_iff.1 hk).1 (fun ek=>by
  rcases ho.2 with⟨e0,_⟩|⟨g,cap,cur2,e0,_,hh,_⟩
  ·rw[e0]at ek;simp[Value.ownBlock]at ek
  ·rw[e0]at ek
   simp[Value.ownBlock]at ek
   subst ek;rw[hk]at hh
   simp at hh
   exact hne hh.2.1)) (by decide) (by decide)
theorem Pb:∀(l:List ByteArray)(st:SS)(x:ByteArray),Qz st (l++[x])=((Lc (Qz st l).1 x).1,(Qz st l).2++[(Lc (Qz st l).1 x).2])
 | [],_,_=>rfl
 |y::r,st,x=>by rw[List.cons_append,Qz,Pb r,Qz];rfl
theorem Tm:∀(l:List ByteArray)(st:SS),(Qz st l).2.length=l.length
 | [],_=>rfl
 |y::r,st=>by rw[Qz];simp[Tm r]
theorem Ft(s:ByteArray):∀x∈(Qy s).1,x.size≤3000:=by
 intro x hx
 unfold Qy at hx
 split at hx
 ·rename_i h;have h1:=List.mem_of_mem_take hx;exact Nat.le_trans (Xb s 10 _ _ _ _ h1) h.1
 ·cases hx
def AnsPS(W:World)(text:ByteArray)(e:Ending)(W':World):Prop :=
  (if(Qy text).2=true then∃q O ao c,W.1.size≤q∧e=.returned (.tuple #[.pointer (some ⟨q,0,none⟩),.slice ao (Qz st0 (Qy text).1).2.length c,.bool true])∧ScW q W' (Qz st0 (Qy text).1).1 O∧kS.In W'.1.size W' ao (Qz st0 (Qy text).1).2
   else e=.returned (.tuple #[.pointer none,.slice none 0 0,.bool false]))∧Below W.1.size W W'
theorem playScript_is(n0:Nat)(text:ByteArray)(W:World)(ea:Nat→Addr)(hs:text.size≤1048576)(hV:Env n0 W ea)(hn:n0≤W.1.size) :
  Calls prog 40 #[.string text] W (AnsPS W text):=by
 have HL:=Zd (linesOf_is text W hs);have HSH:=Zd (Ft text);have hlen:=Fs text;have HA:Zi (AnsPS W text=fun e W'=>AnsPS W text e W'):=rfl;obtain⟨R,hR⟩:=nmd (Qy text);rw[←hR]at HL HSH hlen;have HR:=Zd hR;have HV:=Zd hV;clear hR hV HA;obtain⟨ls,gd⟩:=R;dsimp only at HL HSH hlen;go_enter func40,ntmps40;go_wp2_with fail;refine HL.o.mono ?_;rintro e w1 ⟨⟨ao,c,rfl,hI⟩,hb1⟩;have HI:=Zd hI;have HB1:=Zd hb1;have V1:=Zd (HV.o.step (hb1.mono hn));have hn1:n0≤w1.1.size:=Nat.le_trans hn hb1.size;clear hI hb1 HL
 cases gd with
 |false =>
  go_wp2;refine bodyPost_ret (v:=.tuple #[.pointer none,.slice none 0 0,.bool false]) (by simp[results,results40,go_sem]) rfl ?_;refine⟨?_,HB1.o⟩;rw[←HR.o,if_neg (by simp)]
 |true =>
  obtain⟨w2,h2⟩:=nmd (w1.alloc (.cells #[.slice none 0 0,.bool false,.string ⟨#[]⟩,.pointer none,.int .i64 0] 92));have hb2:Below w1.1.size w1 w2:=by rw[h2];exact Zk _ _
  have X2:Bx w2 w1.1.size [.slice none 0 0,.bool false,.string ⟨#[]⟩,.pointer none,.int .i64 0]:=by rw[h2];exact Bx.new [.slice none 0 0,.bool false,.string ⟨#[]⟩,.pointer none,.int .i64 0] _ rfl
  have SC:Zi (ScW w1.1.size w2 (Qz st0 (ls.take 0)).1 (OA w1.1.size none)):=.inl ⟨rfl,none,0,[],w1.1.size+1,⟨X2,gr_nil,⟨by simp,fun a ha=>by cases ha⟩,X2.size,Nat.le_refl _⟩,rfl,rfl⟩;have OW:Zi (kS.Own w1.1.size w2 (.slice none 0 0) (Qz st0 (ls.take 0)).2):=Kind.Own.nil _ _ _;have H2:=Zd h2;have HB2:=Zd hb2;clear h2 hb2 X2
  go_upto_region 6 with fail
  rw[←H2.o];clear H2;go_wp2
  go_loopw [8,22] (fun u i wr=>∃(k:Nat)(v:Value)(O:Nat→Prop),v=u∧k≤ls.length∧i=.int .i64 k∧Zi (ScW w1.1.size wr (Qz st0 (ls.take k)).1 O)∧Zi (kS.Own w1.1.size wr v (Qz st0 (ls.take k)).2)∧Zi (∀b,v.ownBlock=some b→¬O b)∧Zi (Below w1.1.size w1 wr)) (fun _ i _=>ls.length-(intOf i).toNat)
  case atStart=>exact⟨0,_,_,rfl,Nat.zero_le _,rfl,SC,OW,fun b hb=>by simp[Value.ownBlock]at hb,HB2⟩
  case round =>
   clear SC OW HB2;obtain⟨k,v,O,rfl,hk,rfl,hSC,hOW,hNO,hB⟩:=hrel
   by_cases hlt:k<ls.length
   ·obtain⟨b,off,rfl,hb,hc⟩:=Ks HI.o hlt;have e0:=(hB.o.cell (p:=⟨b,off+k,none⟩) hb).trans (hc k hlt);have hbz:b<wr.1.size:=Nat.lt_of_lt_of_le hb hB.o.size;have VR:=Zd (V1.o.step (hB.o.mono hn1));have hAN:=answer_any n0 w1.1.size wr (Qz st0 (ls.take k)).1 O ea (el ls k) hSC.o (HSH.o _ (Zl hlt)) VR.o hn1;have hsn:=Pb (ls.take k) st0 (el ls k);rw[←Zy hlt]at hsn;have hll:(Qz st0 (ls.take k)).2.length+1≤4194304:=by rw[Tm,List.length_take];omega
    obtain⟨A,hA⟩:=nmd (Qz st0 (ls.take k));rw[←hA]at hSC hOW hAN hsn hll;obtain⟨line,hline⟩:=nmd (el ls k);rw[←hline]at e0 hAN hsn;have HSN:=Zd hsn;have HAN:=Zd hAN;clear hc hA hline hsn hAN;obtain⟨st,xs⟩:=A;dsimp only at hSC hOW HAN HSN hll;go_wp2_with fail;refine HAN.o.mono ?_;rintro e w4 ⟨O',rfl,hS4,hT4⟩;obtain⟨T,hTT⟩:=nmd ((Lc st line).2);have HTT:=Zd hTT;rw[←hTT];have hO4:kS.Own w1.1.size w4 v xs:=Za hOW.o fun b hb=>hT4.block b (Zj hOW.o hb).2 (hNO.o b hb)
    have hN4:=Zd (fun b hb hO=>by
     rcases hT4.own b hO with h1|h1
     ·exact hNO.o b hb h1
     ·have:=(Zj hOW.o hb).2;omega:∀b,v.ownBlock=some b→¬O' b)
    have HB4:=Zd (hB.o.trans hT4.low);obtain⟨w5,h5⟩:=nmd (w4.alloc (.cells #[.string T] 9));have hb5:Below w4.1.size w4 w5:=by rw[h5];exact Zk _ _
    have HS5:=Zd (hS4.later hb5);have HA:=Zd (hO4.below hb5);have HN:Zi (kS.In w5.1.size w5 (some ⟨w4.1.size,0,none⟩) [T]):=by rw[Zi,h5];exact Vp (by simp) (by simp)
    have HB5:=Zd (HB4.o.trans (hb5.mono HB4.o.size));have hs5:w1.1.size≤w5.1.size:=HB5.o.size;have H5:=Zd h5;clear hTT hS4 hT4 hO4 h5 hb5 HAN hSC hOW e0;go_wp2_with (at_builtin;rw[←H5.o];refine Kq kS_ok w5 (by rfl) (.tmp 26) (.tmp 30) (by rfl) w1.1.size v xs (by rfl) (by exact HA.o) (by exact hs5) (some ⟨w4.1.size,0,none⟩) [T] 1 1 (by rfl) (by rfl) (by simp) _ (by exact HN.o) (by exact hll) ?_;intro v' w' hO' hB' hG' hn';have HB6:=Zd (HB5.o.trans hB');have HO':=Zd hO';have HS6:=Zd (HS5.o.grew HA.o hN4.o hG');have HN6:=Zd (fun b hb hO=>(hn' b hb).elim (fun h=>hN4.o b h hO) (fun h=>by have:=(HS5.o.lt b hO).2;omega):∀b,v'.ownBlock=some b→¬O' b);clear hO' hB' hG' hn');go_roundw
    case rel=>exact⟨k+1,v',O',rfl,by omega,by go_num,by rw[HSN.o];exact HS6,by rw[HSN.o,←HTT.o];exact HO',HN6,HB6⟩
    case measure=>simp[intOf];omega
   ·obtain rfl:k=ls.length:=by omega
    rw[List.take_length]at hSC hOW;obtain⟨A,hA⟩:=nmd (Qz st0 ls);rw[←hA]at hSC hOW;have HAA:=Zd hA;clear hA;obtain⟨st,xs⟩:=A;dsimp only at hSC hOW;obtain⟨qo,qc,rfl,_,hF⟩:=hOW.o.in;have HF:=Zd hF;clear hF hOW;go_wp2;refine bodyPost_ret (v:=.tuple #[.pointer (some ⟨w1.1.size,0,none⟩),.slice qo xs.length qc,.bool true]) (by simp[results,results40,go_sem]) rfl ?_;refine⟨?_,HB1.o.trans (hB.o.mono HB1.o.size)⟩;rw[←HR.o,if_pos rfl];dsimp only;rw[←HAA.o];exact⟨_,_,qo,qc,HB1.o.size,rfl,hSC.o,HF.o⟩
structure SSI(st:SS):Prop where
 bad0:0≤st.bad
 bad1:st.bad≤100
 run:st.bg=true→st.bad=0→Kv st.gs=true∧ScI st.gs st.n st.s∧st.n≤300∧RgI st.s
theorem SSI.start:SSI st0:=⟨Int.le_refl _,by decide,fun h=>by cases h⟩
theorem badG_rng(gs:List PNode):0≤Hz gs∧Hz gs≤100:=by
 have:=Ly gs
 unfold Hz
 split
 ·split <;> omega
 ·omega
theorem Ut{gs:List PNode}(h:Kv gs=true):GoodE gs∧Ordd gs (Zv gs)∧Ue gs≤400:=by
 have h00:Qa gs=0∧Ue gs≤400:=by simpa[Kv]using h
 exact⟨Nk h00.1,Ka (Jw h00.1).2.2,h00.2⟩
theorem SSI.beg{st:SS}(h:SSI st):SSI (Nr st):=by
 unfold Nr
 split
 ·exact h
 ·refine⟨(badG_rng _).1,(badG_rng _).2,fun _ hb=>?_⟩;have hp:=(Gm _).1 hb;have hg:=(Ut hp).1;exact⟨hp,ScI.zero hg,Nat.zero_le _,RgI.zero hg.edg.many⟩
theorem SSI.obey{st:SS}(h:SSI st)(hb:st.bg=true)(h0:st.bad=0)(k:Int)(l:List Int):SSI (Jl st k l).1:=by
 obtain⟨r1,r2,r3⟩:=Tc st k l;refine⟨by rw[r3];exact h.bad0,by rw[r3];exact h.bad1,fun _ _=>?_⟩;obtain⟨hp,hS,hn,hR⟩:=h.run hb h0;have hg:=Ut hp;have hit:itB st.s.it:=⟨(hS.raw hn).it0,(hS.raw hn).it1⟩;have hr:=obeyR_rng st hR hit k l;rw[r1];refine⟨hp,?_,?_,hr⟩
 ·unfold Jl
  repeat' split
  all_goals first
   |exact hS
   |exact hS.ran hg.1 hg.2.1 hg.2.2 hn (hS.halt hg.1 hg.2.1 hg.2.2 hn).2
   |skip
  rw[Ti];dsimp only
  unfold Yy
  split
  ·exact hS
  ·exact hS.move hg.1 _ _ _
 ·unfold Jl
  repeat' split
  all_goals first
   |exact hn
   |skip
  rw[Ti];dsimp only
  unfold Yy
  split
  ·exact hn
  ·dsimp only;omega
theorem SSI.ans{st:SS}(h:SSI st)(line:ByteArray):SSI (Lc st line).1:=by
 have hB:=h.beg
 unfold Lc
 split
 ·rename_i hb
  unfold addR
  split
  ·exact⟨h.bad0,h.bad1,fun hh=>by rw[hb.1]at hh;cases hh⟩
  ·exact h
 ·split
  ·exact hB
  ·rename_i hbad;have hbad:(Nr st).bad=0:=by simpa using hbad
   have hbg:(Nr st).bg=true:=by unfold Nr;split <;> simp_all
   split
   ·exact hB.obey hbg hbad _ _
   ·exact hB
theorem Xq(x:Int)(h0 : -9223372036854775808≤x)(h1:x≤9223372036854775807):(tx (Lib.itoa x)).size≤100:=by
 have:=Qx x h0 h1;rw[Ki];omega
theorem mean_size(gs:List PNode)(k v:Int):(Qt ⟨#[109,101,97,110]⟩ ((Xy gs k v).1.map Qj)).size≤200000000:=by
 have h1:=Xt ⟨#[109,101,97,110]⟩ ((Xy gs k v).1.map Qj) (by decide) (fun r hr=>by
  obtain⟨t,ht,rfl⟩:=List.mem_map.1 hr;exact⟨by simp[Qj],meanR_row gs k v t ht⟩)
 have h2:=My gs k v;rw[List.length_map]at h1
 omega
theorem out_size{s:PP}(hR:RgI s)(h:s.em.length≤900000):(Qt ⟨#[111,117,116]⟩ (s.em.map Jj)).size≤200000000:=by
 have h1:=Xt ⟨#[111,117,116]⟩ (s.em.map Jj) (by decide) (fun r hr=>by
  obtain⟨t,ht,rfl⟩:=List.mem_map.1 hr;exact⟨by simp[Jj],(hR.em t ht).row⟩)
 rw[List.length_map]at h1
 omega
theorem lost_size{s:PP}(hR:RgI s)(h:s.fa.length≤900000):(Qt ⟨#[108,111,115,116]⟩ (s.fa.map Qv)).size≤200000000:=by
 have h1:=Xt ⟨#[108,111,115,116]⟩ (s.fa.map Qv) (by decide) (fun r hr=>by
  obtain⟨t,ht,rfl⟩:=List.mem_map.1 hr;exact⟨by simp[Qv],(hR.fa t ht).row⟩)
 rw[List.length_map]at h1
 omega
theorem rep_size{it:Int}{a b c:Nat}{cl:Bool}(h0:0≤it)(h1:it≤1000000)(ha:a≤1000000)(hb:b≤1000000)(hc:c≤1000000):(repP it a b c cl).size≤1000:=by
 have n1:=Xq it (by omega) (by omega);have n2:=Xq (a:Int) (by omega) (by omega);have n3:=Xq (b:Int) (by omega) (by omega);have n4:=Xq (c:Int) (by omega) (by omega)
 unfold repP
 simp only[ByteArray.size_append];have e1:(tx [105,116,101,109,115,32]).size=6:=rfl;have e2:(tx [32,101,109,105,116,116,101,100,32]).size=9:=rfl;have e3:(tx [32,102,97,105,108,101,100,32]).size=8:=rfl;have e4:(tx [32,108,105,118,101,32]).size=6:=rfl;have e5:(if cl=true then tx [32,99,108,111,115,101,100]else tx []).size≤7:=by split <;> decide
 omega
theorem SSI.size{st:SS}(h:SSI st)(hb:st.bg=true)(h0:st.bad=0)(k:Int)(l:List Int):(Jl st k l).2.size≤200000000:=by
 obtain⟨hp,hS,hn,hR⟩:=h.run hb h0;have hg:=Ut hp;have hw:=hS.raw hn;have hem:=hw.em;have hto:=hw.tot;have hi0:=hw.it0;have hi1:=hw.it1
 unfold Jl
 split
 ·have h1:=(hS.halt hg.1 hg.2.1 hg.2.2 hn).1;have h2:=Xq (Rf st.gs st.s:Int) (by omega) (by omega);dsimp only;rw[ByteArray.size_append];have e1:(tx [115,116,101,112,115,32]).size=6:=rfl
  omega
 ·split
  ·have:=rep_size (cl:=st.s.cl) hi0 hi1 (a:=st.s.em.length) (b:=st.s.fa.length) (c:=Zs st.s.bx) (by omega) (by omega) (by omega);dsimp only;omega
  ·split
   ·exact out_size hR (by omega)
   ·split
    ·exact lost_size hR (by omega)
    ·split
     ·dsimp only
      split
      ·exact mean_size _ _ _
      ·decide
     ·unfold movR
      split
      ·show Nb.size≤200000000;decide
      ·dsimp only
       split
       ·decide
       ·have hc:=doR_code st.gs (Ke st.gs st.gs.length) st.s (mvR k l).1 (mvR k l).2.1 (mvR k l).2.2;have h2:=Xq (doR st.gs (Ke st.gs st.gs.length) st.s (mvR k l).1 (mvR k l).2.1 (mvR k l).2.2).1 (by omega) (by omega);rw[ByteArray.size_append];have e1:(tx [110,111,32]).size=3:=rfl
        omega
theorem ansR_size{st:SS}(h:SSI st)(line:ByteArray):(Lc st line).2.size≤200000000:=by
 have hB:=h.beg
 unfold Lc
 split
 ·unfold addR
  split
  ·show okT.size≤200000000;decide
  ·show noT.size≤200000000;decide
 ·split
  ·have h2:=Xq (Nr st).bad (by have:=hB.bad0;omega) (by have:=hB.bad1;omega)
   unfold refT
   dsimp only;rw[ByteArray.size_append];have e1:(tx [103,114,97,112,104,32]).size=6:=rfl
   omega
  ·rename_i hbad;have hbad:(Nr st).bad=0:=by simpa using hbad
   have hbg:(Nr st).bg=true:=by unfold Nr;split <;> simp_all
   split
   ·exact hB.size hbg hbad _ _
   ·show Nb.size≤200000000;decide
theorem Tn:∀(l:List ByteArray){st:SS},SSI st→SSI (Qz st l).1
 | [],_,h=>h
 |x::r,_,h=>Tn r (h.ans x)
theorem Md:∀(l:List ByteArray){st:SS},SSI st→∀t∈(Qz st l).2,t.size≤200000000
 | [],_,_,_,ht=>by cases ht
 |x::r,st,h,t,ht=>by
  rw[Qz]at ht
  rcases List.mem_cons.1 ht with rfl|ht
  ·exact ansR_size h x
  ·exact Md r (h.ans x) t ht
def catL(l:List ByteArray):List UInt8:=l.flatMap fun t=>t.data.toList++[10]
theorem catL_snoc(l:List ByteArray)(t:ByteArray):catL (l++[t])=catL l++(t.data.toList++[10]):=by
 unfold catL
 rw[List.flatMap_append]
 simp
theorem catL_len:∀(l:List ByteArray){m:Nat},(∀t∈l,t.size≤m)→(catL l).length≤l.length*(m+1)
 | [],_,_=>by simp[catL]
 |t::r,m,h=>by
  have ih:=catL_len r fun x hx=>h x (List.mem_cons_of_mem _ hx)
  have ht:=h t (by simp);have e:catL (t::r)=(t.data.toList++[10])++catL r:=rfl;rw[e,List.length_append,List.length_append,List.length_singleton,List.length_cons,Nat.succ_mul];have e2:t.data.toList.length=t.size:=Array.length_toList
  omega
theorem tx_data(t:ByteArray):tx t.data.toList=t:=by
 apply ByteArray.ext
 simp[tx]
def AnsBq(q:Nat)(W:World)(o:Option Addr)(c:Nat)(us:List LNode)(hi:Nat)(e:Ending)(W':World):Prop :=
 (∃v,e=.returned v)∧SStep q (OB q) (OB q) W W'∧if Hz (us.map Zz)=0 then∃lo p bb xs ev fv uv,QR q W' o c us hi lo p bb xs ev fv uv (pp0 us.length) 0
  else QB q W' o c us hi (Hz (us.map Zz))
theorem Cs(q:Nat)(W:World)(v0 v1 v3 v4:Value)(h:Bx W q [v0,v1,.bool true,v3,v4]) :
  Calls prog 108 #[.pointer (some ⟨q,0,none⟩)] W fun e W'=>(∃v,e=.returned v)∧W'=W:=by
 have c2:=h.c 2 rfl;have cz:=h.size;clear h;go_enter func108,ntmps108;go_wp2
 first|refine bodyPost_ret (results_none rfl _ _ _) rfl ?_|refine bodyPost_end (results_none rfl _ _ _) rfl ?_
 exact⟨⟨_,rfl⟩,rfl⟩
theorem beginS_any(q:Nat)(W:World)(o:Option Addr)(c:Nat)(us:List LNode)(hi:Nat)(h:QA q W o c us hi) :
  Calls prog 108 #[.pointer (some ⟨q,0,none⟩)] W (AnsBq q W o c us hi):=by
 have HH:=Zd h;obtain⟨W1,h1⟩:=nmd (W.setCell ⟨q,2,none⟩ (.bool true));have X1:Bx W1 q [.slice o us.length c,.pointer none,.bool true,.int .i64 0,.int .i64 0]:=by rw[h1];exact h.box.set 2 _
 have G1:GR (q+1) hi W1 o c us:=by rw[h1];exact h.gr.setOff (.inl (by dsimp only;omega)) _
 have hb1:SStep q (OB q) (OB q) W W1:=by rw[h1];exact SStep.set (n:=q) (O:=OB q) (a:=⟨q,2,none⟩) rfl (Nat.le_refl _) _
 have RM:=h.fit.roomy G1;have HCK:=Zd (Up o c us W1 RM G1.in);have H1:=Zd h1;have HX1:=Zd X1;have HG1:=Zd G1;have HB1:=Zd hb1;have HRM:=Zd RM;have c2:=h.box.c 2 rfl;have f2:=h.box.f 2 rfl;have cz:=h.box.size;have hhi:=h.hi1;have hhi0:=h.hi0;have hhW:Zi (hi≤W1.1.size):=Nat.le_trans h.hi1 hb1.low.size;have HBG:=Zd (Gm (us.map Zz));have hcl:=Ly (us.map Zz);clear h X1 G1 RM h1 hb1;go_enter func108,ntmps108
 go_upto_region 2 with fail
 rw[←H1.o];clear H1 c2 f2 cz;have c0:=HX1.o.c 0 rfl;have c3:=HX1.o.c 3 rfl;have f3:=HX1.o.f 3 rfl;have cz:=HX1.o.size;obtain⟨cg,hcg⟩:∃k:Nat,k=Qa (us.map Zz):=⟨_,rfl⟩;rw[←hcg]at HCK hcl;have HCG:=Zd hcg;clear hcg;go_wp2_with fail;refine HCK.o.mono ?_;rintro e w2 ⟨rfl,hb2⟩;obtain⟨W3,h3⟩:=nmd (w2.setCell ⟨q,3,none⟩ (.int .i64 (cg:Int)));have X2:=HX1.o.later hb2;have g3:=X2.c 3 rfl;have g3f:=X2.f 3 rfl;have cz2:=X2.size;have HX3:Zi (Bx W3 q [.slice o us.length c,.pointer none,.bool true,.int .i64 (cg:Int),.int .i64 0]):=by rw[h3];exact X2.set 3 _
 have HG3:Zi (GR (q+1) hi W3 o c us):=by rw[h3];exact(HG1.o.later hb2).setOff (.inl (by dsimp only;omega)) _
 have HB3:Zi (SStep q (OB q) (OB q) W W3):=by rw[h3];exact(HB1.o.trans (SStep.of_below hb2 (Nat.le_of_lt HX1.o.size))).trans (SStep.set (n:=q) (O:=OB q) (a:=⟨q,3,none⟩) rfl (Nat.le_refl _) _)
 have hh3:Zi (hi≤W3.1.size):=by rw[h3];exact Nat.le_trans (Nat.le_trans hhW.o hb2.size) (by simp[World.setCell])
 have H3:=Zd h3;clear h3 X2 hb2 c0 c3 f3 cz HCK
 go_upto_region 3 with fail
 rw[←H3.o];clear H3 g3 g3f cz2;have hno:Zi (Kv (us.map Zz)=false→∀W4,Below W3.1.size W3 W4→Calls prog 139 #[.slice o us.length c,.slice none 0 0] W4 fun e w'=>(∃q2,e=.returned (.tuple #[.pointer (some ⟨q2,0,none⟩),.slice none 0 0,.bool false]))∧Below W4.1.size W4 w'):=fun hp W4 hb4=>by
  have h4:=HG3.o.later hb4;refine(Pc o c us none 0 [] W4 (HH.o.fit.roomy h4) h4.in (.inl rfl) (fun k hk=>by cases hk)).mono ?_;rintro e w' ⟨hA,hB⟩;rw[if_neg (fun hh=>by rw[hp]at hh;cases hh.1)]at hA;exact⟨hA,hB⟩
 have c3:=HX3.o.c 3 rfl;have f3:=HX3.o.f 3 rfl;have c0:=HX3.o.c 0 rfl;have cz:=HX3.o.size
 by_cases h0:cg=0
 ·subst h0;have HGD:=Zd (Cw o c us W3 (HH.o.fit.roomy HG3.o) HG3.o.in);obtain⟨pb,hpb⟩:=nmd (Kv (us.map Zz));rw[←hpb]at HGD;have HPB:=Zd hpb;clear hpb;go_wp2_with fail;refine HGD.o.mono ?_;rintro e w4 ⟨rfl,hb4⟩;have X4:=HX3.o.later hb4;have HX4:=Zd X4;have HG4:=Zd (HG3.o.later hb4);have HB34:=Zd hb4;have HB4:=Zd (HB3.o.trans (SStep.of_below hb4 (Nat.le_of_lt HX3.o.size)));have hh4:=Zd (Nat.le_trans hh3.o hb4.size);have k3:=X4.c 3 rfl;have k3f:=X4.f 3 rfl;have k0:=X4.c 0 rfl;have k0z:=X4.size;clear X4 hb4 c3 f3 c0 cz HGD
  cases pb with
  |false =>
   obtain⟨W5,h5⟩:=nmd (w4.setCell ⟨q,3,none⟩ (.int .i64 8));have HX5:Zi (Bx W5 q [.slice o us.length c,.pointer none,.bool true,.int .i64 8,.int .i64 0]):=by rw[h5];exact HX4.o.set 3 _
   have HG5:Zi (GR (q+1) hi W5 o c us):=by rw[h5];exact HG4.o.setOff (.inl (by dsimp only;omega)) _
   have HB5:Zi (SStep q (OB q) (OB q) W W5):=by rw[h5];exact HB4.o.trans (SStep.set (n:=q) (O:=OB q) (a:=⟨q,3,none⟩) rfl (Nat.le_refl _) _)
   have hh5:Zi (hi≤W5.1.size):=by rw[h5];exact Nat.le_trans hh4.o (by simp[World.setCell])
   have HPL:Zi (Calls prog 139 #[.slice o us.length c,.slice none 0 0] W5 fun e w'=>(∃q2,e=.returned (.tuple #[.pointer (some ⟨q2,0,none⟩),.slice none 0 0,.bool false]))∧Below W5.1.size W5 w'):=by
    refine(Pc o c us none 0 [] W5 (HH.o.fit.roomy HG5.o) HG5.o.in (.inl rfl) (fun k hk=>by cases hk)).mono ?_;rintro e w' ⟨hA,hB⟩;rw[if_neg (fun hh=>by rw[←HPB.o]at hh;cases hh.1)]at hA;exact⟨hA,hB⟩
   have H5:=Zd h5;clear h5
   go_upto_region 5 with fail
   rw[←H5.o];clear H5 k3 k3f k0 k0z;have c0:=HX5.o.c 0 rfl;have cz:=HX5.o.size;go_wp2_with fail;refine HPL.o.mono ?_;rintro e w6 ⟨⟨q2,rfl⟩,hb6⟩;have HX6:=Zd (HX5.o.later hb6);have HG6:=Zd (HG5.o.later hb6);have HB6:=Zd (HB5.o.trans (SStep.of_below hb6 (Nat.le_of_lt HX5.o.size)));have hh6:=Zd (Nat.le_trans hh5.o hb6.size);clear hb6 c0 cz HPL;go_wp2
   first|refine bodyPost_ret (results_none rfl _ _ _) rfl ?_|refine bodyPost_end (results_none rfl _ _ _) rfl ?_
   have hbad:Hz (us.map Zz)=8:=by
    unfold Hz
    rw[if_pos HCG.o.symm,if_neg];intro hw;have:=HPB.o;rw[Kv,decide_eq_true HCG.o.symm,decide_eq_true hw]at this
    cases this
   refine⟨⟨_,rfl⟩,HB6.o,?_⟩;rw[if_neg (by rw[hbad];decide),hbad];exact⟨HX6.o,HG6.o,HH.o.fit,hh6.o,hhi0⟩
  |true =>
   have hz0:Hz (us.map Zz)=0:=(Gm _).2 HPB.o.symm;have HZ0:=Zd hz0;clear hz0;have HPL:Zi (Calls prog 139 #[.slice o us.length c,.slice none 0 0] w4 fun e w'=>(∃lo p bb xs ev fv uv v,e=.returned (.tuple #[.pointer (some ⟨p,0,none⟩),v,.bool true])∧w4.1.size≤lo∧FlowS lo w' p bb (.slice o us.length c) xs ev fv uv (pp0 us.length))∧Below w4.1.size w4 w'):=by
    refine(Pc o c us none 0 [] w4 (HH.o.fit.roomy HG4.o) HG4.o.in (.inl rfl) (fun k hk=>by cases hk)).mono ?_;rintro e w' ⟨hA,hB⟩;rw[if_pos ⟨HPB.o.symm,Nat.zero_le _⟩]at hA;obtain⟨lo,p,bb,xs,ev,fv,uv,v,he,hlo,hF,_,_⟩:=hA;exact⟨⟨lo,p,bb,xs,ev,fv,uv,v,he,hlo,hF⟩,hB⟩
   go_wp2_with fail;refine HPL.o.mono ?_;rintro e w6 ⟨⟨lo,p,bb,xs,ev,fv,uv,v,rfl,hlo,hF⟩,hb6⟩;have HX6:=Zd (HX4.o.later hb6);have HG6:=Zd (HG4.o.later hb6);have HB6:=Zd (HB4.o.trans (SStep.of_below hb6 (Nat.le_of_lt HX4.o.size)));have HF:=Zd hF;have HLO:=Zd (Nat.le_trans hh4.o hlo);have HLQ:=Zd (Nat.lt_of_lt_of_le HX4.o.size hlo);have m1:=HX6.o.c 1 rfl;have m1f:=HX6.o.f 1 rfl;have mz:=HX6.o.size;clear hb6 hF hlo k3 k3f k0 k0z HPL;go_wp2
   first|refine bodyPost_ret (results_none rfl _ _ _) rfl ?_|refine bodyPost_end (results_none rfl _ _ _) rfl ?_
   refine⟨⟨_,rfl⟩,HB6.o.trans (SStep.set (n:=q) (O:=OB q) (a:=⟨q,1,none⟩) rfl (Nat.le_refl _) _),?_⟩;rw[if_pos HZ0.o];have hg:=(Ut HPB.o.symm).1;have hsc:=ScI.zero hg;rw[Zb]at hsc;have hnF:¬FO p bb xs ev fv uv q:=fun hf=>by have:=HF.o.geS hf;have:=HLQ.o;omega
   exact⟨lo,p,bb,xs,ev,fv,uv,HX6.o.set 1 _,HG6.o.setOff (.inl (by dsimp only;omega)) _,HH.o.fit,HLO.o,hhi0,HF.o.setFar hnF _,HPB.o.symm,hsc,Nat.zero_le _⟩
 ·have hd:(((cg:Nat):Int)==0)=false:=by simpa using h0
  have hpf:Kv (us.map Zz)=false:=by rw[Kv,decide_eq_false (by rw[←HCG.o];exact h0)];rfl
  have hbad:Zi (Hz (us.map Zz)=(cg:Int)):=by rw[Zi,Hz,if_neg (by rw[←HCG.o];exact h0),HCG.o]
  have HN0:=Zd h0;have HPL:=Zd (hno.o hpf W3 (Below.refl _ _));clear h0 hpf;go_wp2_with fail;refine HPL.o.mono ?_;rintro e w6 ⟨⟨q2,rfl⟩,hb6⟩;have HX6:=Zd (HX3.o.later hb6);have HG6:=Zd (HG3.o.later hb6);have HB6:=Zd (HB3.o.trans (SStep.of_below hb6 (Nat.le_of_lt HX3.o.size)));have hh6:=Zd (Nat.le_trans hh3.o hb6.size);clear hb6 c0 c3 f3 cz HPL;go_wp2
  first|refine bodyPost_ret (results_none rfl _ _ _) rfl ?_|refine bodyPost_end (results_none rfl _ _ _) rfl ?_
  refine⟨⟨_,rfl⟩,HB6.o,?_⟩;rw[if_neg (by rw[hbad.o];have:=HN0.o;omega),hbad.o];exact⟨HX6.o,HG6.o,HH.o.fit,hh6.o,hhi0⟩
section
open Go.RowKit
theorem moveS_full(q:Nat)(W:World)(v0 v1 v2 v3:Value)(k:Int)(no:Option Addr)(nn nc:Nat)(h:Bx W q [v0,v1,v2,v3,.int .i64 300]) :
  Calls prog 111 #[.pointer (some ⟨q,0,none⟩),.int .i64 k,.slice no nn nc] W fun e W'=>e=.returned (.string Nb)∧W'=W:=by
 have c4:=h.c 4 rfl;have cz:=h.size;clear h;go_enter func111,ntmps111;go_wp2;exact bodyPost_ret (v:=.string ⟨#[119,104,97,116]⟩) (by simp[results,results111,go_sem]) rfl ⟨rfl,rfl⟩
section
variable {P:Program} {ops:Array Oper} {Q:Exit→Act→World→Prop} {md:Region.Mode} {S:World→Prop}
theorem Gp{zl:List Nat}(i:Nat){oi:Oper}{v:Value}{n:Nat}{ls:Array Bool}{a:Act}{w:World}(hS:S w)(h:Walks P md ops Q S (zl.contains ·) n (ls.setIfInBounds i true) (a.put oi.dst v) w)(ho:ops[i]? = some oi:=by exact rfl)(hs:Region.noSelect ops=true:=by kernel_rfl)(hl:Lz md ops zl i=true:=by kernel_rfl)(hQ:∀c a w,Q (.panic c) (a.put oi.dst v) w→Q (.panic c) a w:=by exact fun _ _ _ h=>h)(hf:Region.free md ops ls i=true:=by kernel_rfl)(hr:(Region.ready md ops ls).contains i=true:=by kernel_rfl)(hy:YieldsIf P ops S oi v a:=by exact .inl ⟨by rfl,by intro w' hSw;(try dsimp only at hSw);go_simp <;> with_reducible rfl⟩):Walks P md ops Q S (zl.contains ·) (n+1) ls a w:=Walks.take ho hs hl hQ n ls a w hf hr hy hS h
end
def Num1(q:Nat)(W:World)(go:Option Addr)(a:Int):Prop:=∃nb noff,go=some ⟨nb,noff,none⟩∧nb<W.1.size∧q<nb∧W.cell? ⟨nb,noff,none⟩=some (.int .i64 a)
def Num2(q:Nat)(W:World)(go:Option Addr)(a b:Int):Prop:=∃nb noff,go=some ⟨nb,noff,none⟩∧nb<W.1.size∧q<nb∧W.cell? ⟨nb,noff,none⟩=some (.int .i64 a)∧W.cell? ⟨nb,noff+1,none⟩=some (.int .i64 b)
theorem Yw(q:Nat)(W:World)(o:Option Addr)(c:Nat)(us:List LNode)(hi lo p bb:Nat)(xs:List Value)(ev fv uv:Value)(s:PP)(n:Nat)(h:QR q W o c us hi lo p bb xs ev fv uv s n)(go:Option Addr)(nl gc:Nat)(m1 a b:Int)(hm:m1≤9223372036854775807)(hn3:n≠300)
  (hsw:((m1==1)=true∧nl=2∧Num2 q W go a b)∨((m1==1)=false∧(m1==2)=true∧nl=1∧b=0∧Num1 q W go a)∨((m1==1)=false∧(m1==2)=false∧(m1==3)=true∧nl=1∧b=0∧Num1 q W go a)∨((m1==1)=false∧(m1==2)=false∧(m1==3)=false∧(m1==4)=true∧nl=1∧a=0∧Num1 q W go b)∨((m1==1)=false∧(m1==2)=false∧(m1==3)=false∧(m1==4)=false∧a=0∧b=0)) :
  Calls prog 111 #[.pointer (some ⟨q,0,none⟩),.int .i64 m1,.slice go nl gc] W (Da q W o c us hi lo p (movT (doR (us.map Zz) (Ke (us.map Zz) us.length) s m1 a b).1) (doR (us.map Zz) (Ke (us.map Zz) us.length) s m1 a b).2 (n+1)):=by
 have hnl:=h.few;have hd:((n:Int)==300)=false:=by simp;omega
 have hw:IntKind.i64.wrap ((n:Int)+1)=(n:Int)+1:=by rw[IntKind.wrap_i64] <;> omega
 obtain⟨W1,h1⟩:=nmd (W.setCell ⟨q,4,none⟩ (.int .i64 ((n:Int)+1)));have P1:QR q W1 o c us hi lo p bb xs ev fv uv s (n+1):=by rw[h1];exact h.count (by omega)
 have hbq:Below q W W1:=by rw[h1];exact(Below.refl q W).setCell (p:=⟨q,4,none⟩) (Nat.le_refl _) _
 have hs1:W1.1.size=W.1.size:=by rw[h1];simp[World.setCell]
 obtain⟨W2,h2⟩:=nmd (W1.alloc (.cells #[.int .i64 m1,.int .i64 0,.int .i64 0] 127));have XM:Bx W2 W1.1.size [.int .i64 m1,.int .i64 0,.int .i64 0]:=by rw[h2];exact Bx.new (w:=W1) [.int .i64 m1,.int .i64 0,.int .i64 0] 127 rfl
 have hb2:Below W1.1.size W1 W2:=by rw[h2];exact Zk W1 _
 have hkc:∀nb,nb<W.1.size→q<nb→∀i,W2.cell? ⟨nb,i,none⟩=W.cell? ⟨nb,i,none⟩:=fun nb hb hq i=>(hb2.cell (p:=⟨nb,i,none⟩) (by dsimp only;omega)).trans (World.cell?_of_block (a:=⟨nb,i,none⟩) (by rw[h1];exact Below.heap_setCell W ⟨q,4,none⟩ _ nb (by dsimp only;omega)))
 have HP1:=Zd P1;have HXM:=Zd XM;have HBQ:=Zd (hbq.trans (hb2.mono (Nat.le_of_lt P1.box.size)));have HB2:=Zd hb2;have H1:=Zd h1;have H2:=Zd h2;have HS1:=Zd hs1;have c4:=h.box.c 4 rfl;have f4:=h.box.f 4 rfl;have cz:=h.box.size;have hqm:q<W1.1.size:=P1.box.size;have HIM:=Zd (h.sci.move (src:=Ke (us.map Zz) us.length) h.good.1 m1 a b);have HGD:=Zd h.good;have HOLD:=Zd (fun b (hb:FO p bb xs ev fv uv b)=>P1.flow.old hb);obtain⟨m0,m1c,m2c⟩:=XM.y3;have g0:=XM.f 0 rfl;have g1:=XM.f 1 rfl;have g2:=XM.f 2 rfl;have mz:=XM.size;have HSW:=Zd hsw;have HKC:=Zd hkc;obtain⟨gb,goff,rfl,hgl⟩:=h.some;clear h h1 h2 hbq P1 hb2 hs1 hsw hkc XM;go_enter func111,ntmps111
 go_upto_region 4 with fail
 rw[←H1.o];clear H1 c4 f4 cz hd hw
 go_upto_region 5 with fail
 rw[←H2.o];clear H2
 rcases HSW.o with⟨h1,rfl,nb,noff,rfl,hnb,hnq,d0,d1⟩|⟨h1,h2,rfl,hz,nb,noff,rfl,hnb,hnq,d0⟩|⟨h1,h2,h3,rfl,hz,nb,noff,rfl,hnb,hnq,d0⟩|⟨h1,h2,h3,h4,rfl,hz,nb,noff,rfl,hnb,hnq,d0⟩|⟨h1,h2,h3,h4,hy,hz⟩
 case' inl =>
  have e0:=(HKC.o nb hnb hnq _).trans d0;have e1:=(HKC.o nb hnb hnq _).trans d1;have hn2:nb<W1.1.size:=by have:=HS1.o;omega
  obtain⟨W3,h3w⟩:=nmd (((W2.setCell ⟨W1.1.size,1,none⟩ (.int .i64 a)).setCell ⟨W1.1.size,2,none⟩ (.int .i64 b)));have X3:Bx W3 W1.1.size [.int .i64 m1,.int .i64 a,.int .i64 b]:=by rw[h3w];exact((HXM.o.set 1 (.int .i64 a)).set 2 (.int .i64 b))
  have hb3:Below W1.1.size W2 W3:=by rw[h3w];exact(((Below.refl W1.1.size W2)|> bbs)|> bbs)
  have H3:=Zd h3w;clear h3w d0 d1
  go_upto_region 14 with fail
  rw[←H3.o];clear H3 h1 e0 hn2 hnb hnq e1
 case' inr.inl =>
  have e0:=(HKC.o nb hnb hnq _).trans d0;have hn2:nb<W1.1.size:=by have:=HS1.o;omega
  obtain⟨W3,h3w⟩:=nmd ((W2.setCell ⟨W1.1.size,1,none⟩ (.int .i64 a)));have X3:Bx W3 W1.1.size [.int .i64 m1,.int .i64 a,.int .i64 b]:=by rw[h3w,hz];exact(HXM.o.set 1 (.int .i64 a))
  have hb3:Below W1.1.size W2 W3:=by rw[h3w];exact((Below.refl W1.1.size W2)|> bbs)
  have H3:=Zd h3w;clear h3w hz d0
  go_upto_region 14 with fail
  rw[←H3.o];clear H3 h1 h2 e0 hn2 hnb hnq
 case' inr.inr.inl =>
  have e0:=(HKC.o nb hnb hnq _).trans d0;have hn2:nb<W1.1.size:=by have:=HS1.o;omega
  obtain⟨W3,h3w⟩:=nmd ((W2.setCell ⟨W1.1.size,1,none⟩ (.int .i64 a)));have X3:Bx W3 W1.1.size [.int .i64 m1,.int .i64 a,.int .i64 b]:=by rw[h3w,hz];exact(HXM.o.set 1 (.int .i64 a))
  have hb3:Below W1.1.size W2 W3:=by rw[h3w];exact((Below.refl W1.1.size W2)|> bbs)
  have H3:=Zd h3w;clear h3w hz d0
  go_upto_region 14 with fail
  rw[←H3.o];clear H3 h1 h2 h3 e0 hn2 hnb hnq
 case' inr.inr.inr.inl =>
  have e0:=(HKC.o nb hnb hnq _).trans d0;have hn2:nb<W1.1.size:=by have:=HS1.o;omega
  obtain⟨W3,h3w⟩:=nmd ((W2.setCell ⟨W1.1.size,2,none⟩ (.int .i64 b)));have X3:Bx W3 W1.1.size [.int .i64 m1,.int .i64 a,.int .i64 b]:=by rw[h3w,hz];exact(HXM.o.set 2 (.int .i64 b))
  have hb3:Below W1.1.size W2 W3:=by rw[h3w];exact((Below.refl W1.1.size W2)|> bbs)
  have H3:=Zd h3w;clear h3w hz d0
  go_upto_region 14 with fail
  rw[←H3.o];clear H3 h1 h2 h3 h4 e0 hn2 hnb hnq
 case' inr.inr.inr.inr =>
  obtain⟨W3,h3w⟩:=nmd (W2);have X3:Bx W3 W1.1.size [.int .i64 m1,.int .i64 a,.int .i64 b]:=by rw[h3w,hy,hz];exact HXM.o
  have hb3:Below W1.1.size W2 W3:=by rw[h3w];exact(Below.refl W1.1.size W2)
  have H3:=Zd h3w;clear h3w hy hz
  go_upto_region 14 with fail
  rw[←H3.o];clear H3 h1 h2 h3 h4
 all_goals
  have hRW:=(HP1.o.later (HB2.o.trans hb3)).sci.raw (by have:=HP1.o.few;omega);rw[Zb]at hRW;have HP3:=Zd (HP1.o.later (HB2.o.trans hb3));have HX3:=Zd X3;have HB3:=Zd (HBQ.o.trans (hb3.mono (Nat.le_of_lt hqm)));have hzD:DIn Ja lo W3 (some ⟨gb,goff,none⟩) us:=HP3.o.gr.inHi.up Zf HP3.o.hi1;have HDO:=Zd (moveS_any lo W3.drew p bb gb goff c us xs ev fv uv s m1 a b (HP3.o.flow.later (Below.refl _ W3).drew) (hzD.below Zf (Below.refl _ W3).drew) HGD.o.1 HP3.o.sci.inv hRW hm);have C0:Zi (W3.cell? ⟨q,1,none⟩=some (.pointer (some ⟨p,0,none⟩))∧W3.cell? ⟨W1.1.size,0,none⟩=some (.int .i64 m1)∧W3.cell? ⟨W1.1.size,1,none⟩=some (.int .i64 a)∧W3.cell? ⟨W1.1.size,2,none⟩=some (.int .i64 b)):=⟨HP3.o.box.c 1 rfl,HX3.o.c 0 rfl,HX3.o.c 1 rfl,HX3.o.c 2 rfl⟩;have qz:=HP3.o.box.size;clear X3 hb3 hRW hzD m0 m1c m2c g0 g1 g2 mz;refine Qq (zl:=[6]) (S:=fun Y=>Y.cell? ⟨q,1,none⟩=some (.pointer (some ⟨p,0,none⟩))∧Y.cell? ⟨W1.1.size,0,none⟩=some (.int .i64 m1)∧Y.cell? ⟨W1.1.size,1,none⟩=some (.int .i64 a)∧Y.cell? ⟨W1.1.size,2,none⟩=some (.int .i64 b)) (by kernel_rfl) C0.o (fun hH=>?_);refine Gp 0 hH ?_;refine Gp 1 hH ?_;refine Gp 2 hH ?_;refine Gp 3 hH ?_;refine Gp 4 hH ?_;refine Walks.on 5 fun K hK=>?_
  go_simp;refine HDO.o.mono ?_;rintro e w3 ⟨rfl,hFS⟩;obtain⟨bb',xs',ev',fv',uv',P4,B4⟩:=(HP3.o.later (Below.refl _ W3).drew).step hFS HIM.o;have hkm:∀i,w3.cell? ⟨W1.1.size,i,none⟩=W3.cell? ⟨W1.1.size,i,none⟩:=fun i=>World.cell?_of_block (a:=⟨W1.1.size,i,none⟩) (hFS.keptS W1.1.size (by exact HX3.o.size) (fun hF=>by have:=HOLD.o _ hF;omega))
  have HS3:Zi (w3.cell? ⟨q,1,none⟩=some (.pointer (some ⟨p,0,none⟩))∧w3.cell? ⟨W1.1.size,0,none⟩=some (.int .i64 m1)∧w3.cell? ⟨W1.1.size,1,none⟩=some (.int .i64 a)∧w3.cell? ⟨W1.1.size,2,none⟩=some (.int .i64 b)):=⟨P4.box.c 1 rfl,(hkm 0).trans (HX3.o.c 0 rfl),(hkm 1).trans (HX3.o.c 1 rfl),(hkm 2).trans (HX3.o.c 2 rfl)⟩;have HP4:=Zd P4;have HB4:=Zd ((HB3.o.trans ((Below.refl _ W3).drew.mono (Nat.le_of_lt HP3.o.box.size))).trans B4);have hcode:=doR_code (us.map Zz) (Ke (us.map Zz) us.length) s m1 a b;obtain⟨r,hr⟩:=nmd ((doR (us.map Zz) (Ke (us.map Zz) us.length) s m1 a b).1);rw[←hr]at hcode ⊢;have HR:=Zd hr;clear hr hFS hkm P4 B4 HDO C0 HIM;refine hK.out _ _ (fun _=>HS3.o) (fun _=>?_);clear hK K;refine Walks.on 6 fun K hK=>?_
  go_simp;refine hK.out _ _ (fun h=>absurd h (by decide)) (fun _=>?_);clear hK K;refine Walks.done (by kernel_rfl) ?_ _
  by_cases h0:r=0
  ·have hd0:(r != 0)=false:=by simpa using h0
   have H0:=Zd h0;clear h0;go_wp2;refine bodyPost_ret (v:=.string ⟨#[111,107]⟩) (by simp[results,results111,go_sem]) rfl ?_;exact⟨by rw[←HR.o,movT,if_pos H0.o];rfl,bb',xs',ev',fv',uv',HP4.o,HB4.o⟩
  ·have hd0:(r != 0)=true:=by simpa using h0
   have H0:=Zd h0;clear h0;go_wp2_with fail;refine(Jg r (by omega) (by omega) w3).mono ?_;rintro e w4 ⟨rfl,hb4⟩;obtain⟨y,hy⟩:=nmd (tx (Lib.itoa r));have hys:y.size≤100:=by rw[hy];exact Xq r (by omega) (by omega)
   have hy3:¬9223372036854775807<3+y.size:=by omega
   have HY:=Zd hy;rw[←hy];have HB5:=Zd hb4;clear hy hb4;go_wp2;refine bodyPost_ret (v:=.string (⟨#[110,111,32]⟩++y)) (by simp[results,results111,go_sem]) rfl ?_;exact⟨by rw[←HR.o,movT,if_neg H0.o,←HY.o];rfl,bb',xs',ev',fv',uv',HP4.o.later HB5.o,HB4.o.trans (HB5.o.mono (Nat.le_of_lt HP4.o.box.size))⟩
end
end Go.Proofs.YtdacedbfnlkghaaGreatDoor