/- How far emitsOf has come, plainly: its bounds. Hands: rows of ints of their own behind one row of heads. What is emitted, as the program says it: emitsAt; how emitsOf's memory lies. What is emitted, as the program says it: emitsOf. Emits in order: plain facts. No conditions but those written. -/
import Derived.Test.YtdacedbfnlkghaaGreatDoorUScmMj
namespace Go.Proofs.YtdacedbfnlkghaaGreatDoor
set_option maxHeartbeats 8000000
set_option maxRecDepth 100000
open Go.RowKit Go.Proofs.Tryz
section
open Go.RowKit
section
variable {gs:List PNode} {R:List Int}
def sT(gs:List PNode)(s:ES)(k i:Nat):ES:=((el s.1 k).take i).foldl (Nu gs k) s
theorem sT_zero(s:ES)(k:Nat):sT gs s k 0=s:=by unfold sT;simp
theorem sT_all(s:ES)(k:Nat):sT gs s k (el s.1 k).length=Di gs s k:=by unfold sT Di;rw[List.take_length]
theorem sT_succ(s:ES)(k:Nat){i:Nat}(hi:i<(el s.1 k).length):sT gs s k (i+1)=Nu gs k (sT gs s k i) (el (el s.1 k) i):=by
 unfold sT
 rw[Zy hi,List.foldl_append];rfl
theorem sT_len(s:ES)(k i:Nat):(sT gs s k i).1.length=s.1.length:=fold_len gs k _ _
theorem Bl(s:ES){t k:Nat}(ht:t<R.length)(ek:el R t=(k:Int)):Qi gs (R.take (t+1)) s=Di gs (Qi gs (R.take t) s) k:=by
 rw[Zy ht,ek,Cm,Bm,Int.toNat_natCast];rfl
theorem Bg{n k:Nat}(hp:Uc n (nxP gs k))(hk:(k:Int)∉nxP gs k):∀(vs:List Int)(s:ES),s.1.length=n→el (vs.foldl (Nu gs k) s).1 k=el s.1 k
 | [],_,_=>rfl
 |v::r,s,hl=>by
  rw[List.foldl_cons,Bg hp hk r _ (by rw[Po,hl])];exact Rb _ _ _ k (by rw[hl];exact hp) hk
def AllV(I:List (List Int)):Prop:=∀j,∀x∈el I j,Ju x=true
theorem allV_into{out:List Int}(ho:∀x∈out,Ju x=true):∀(nx:List Int)(I:List (List Int)),Uc I.length nx→AllV I→AllV (Qn out nx I)
 | [],_,_,h=>h
 |y::r,I,hp,h=>by
  obtain⟨j,hj,rfl⟩:=hp y (by simp);rw[Qn,Int.toNat_natCast];refine allV_into ho r _ (fun z hz=>by rw[List.length_set];exact hp z (by simp[hz])) fun i x hx=>?_
  rw[Ph hj]at hx
  split at hx
  ·rcases List.mem_append.1 hx with h1|h1
   ·exact h j x h1
   ·exact ho x h1
  ·exact h i x hx
theorem Dy{n k:Nat}(hg:Zg (el gs k).2.1 (el gs k).2.2.1 (el gs k).2.2.2.1=true)(hp:Uc n (nxP gs k)):∀(vs:List Int)(s:ES),s.1.length=n→(∀v∈vs,Ju v=true)→AllV s.1→AllV (vs.foldl (Nu gs k) s).1
 | [],_,_,_,h=>h
 |v::r,s,hl,hv,h=>by
  rw[List.foldl_cons];exact Dy hg hp r _ (by rw[Po,hl]) (fun x hx=>hv x (by simp[hx])) (allV_into (outM_val hg (hv v (by simp))) _ _ (by rw[hl];exact hp) h)
theorem allV_at(h:Ordd gs R)(hE:EdgesIn gs)(hS:Wy gs){s:ES}(hl:s.1.length=gs.length)(hV:AllV s.1):∀t,t≤R.length→AllV (Qi gs (R.take t) s).1
 |0,_=>by rw[List.take_zero];exact hV
 |t+1,ht=>by
  have hlt:t<R.length:=by omega
  obtain⟨k,hk,ek⟩:=h.rng _ (Zl hlt);rw[Bl s hlt ek];have ih:=allV_at h hE hS hl hV t (by omega);exact Dy (hS k hk) (hE.rng k hk) _ _ (by rw[Ye,hl]) (fun v hv=>ih k v hv) ih
theorem allV_start{n k:Nat}{v:Int}(hv:Ju v=true):AllV (Vi n k v).1:=fun j x hx=>by
 unfold Vi at hx
 dsimp only at hx
 by_cases hk:k<(List.replicate n ([]:List Int)).length
 ·rw[Ph hk]at hx
  split at hx
  ·simp at hx;rw[hx];exact hv
  ·have:el (List.replicate n ([]:List Int)) j=[]:=by simp only[el,List.getElem?_replicate];split <;> rfl
   rw[this]at hx;simp at hx
 ·rw[List.set_eq_of_length_le (by omega)]at hx;have:el (List.replicate n ([]:List Int)) j=[]:=by simp only[el,List.getElem?_replicate];split <;> rfl
  rw[this]at hx;simp at hx
structure At(gs:List PNode)(R:List Int)(s0:ES)(t k i:Nat)(s:ES):Prop where
 len:s.1.length=gs.length
 self:(k:Int)∉nxP gs k
 row:el s.1 k=el (Qi gs (R.take t) s0).1 k
 val:AllV s.1
 em:s.2.length≤100000
 own:(el s.1 k).length≤100000
 wide:∀j:Nat,(j:Int)∈nxP gs k→(el s.1 j).length≤100000
theorem wRows_row{rest:List Int}{I:List (List Int)}{φ:Nat→Int→Int}(hφ:∀a∈rest,∀x,1≤φ a.toNat x){j:Nat}(hj:(j:Int)∈rest):((el I j).length:Int)≤Ku φ I rest:=by
 have h1:Zt (φ j) (el I j)≤Ku φ I rest:=by
  have:=Hn (f:=fun a:Int=>Zt (φ a.toNat) (el I a.toNat)) hj (fun y hy=>Xa fun x _=>by have:=hφ y hy x;omega);rw[Int.toNat_natCast]at this;exact this
 have h2:((el I j).length:Int)≤Zt (φ j) (el I j):=Wk fun x _=>by have:=hφ _ hj x;rw[Int.toNat_natCast]at this;exact this
 omega
theorem at_is(h:Ordd gs R)(hE:EdgesIn gs)(hS:Wy gs){k0:Nat}{v0:Int}(hk0:k0<gs.length)(hv:Ju v0=true)(hw:wdP gs R k0≤100000){t k:Nat}(ht:t<R.length)(ek:el R t=(k:Int))(hk:k<gs.length){i:Nat} :
  At gs R (Vi gs.length k0 v0) t k i (sT gs (Qi gs (R.take t) (Vi gs.length k0 v0)) k i):=by
 have hl0:(Vi gs.length k0 v0).1.length=gs.length:=emit0_len _ _ _;have hlt:(Qi gs (R.take t) (Vi gs.length k0 v0)).1.length=gs.length:=by rw[Ye,hl0]
 have hself:(k:Int)∉nxP gs k:=by
  have:=h.self _ (h.has hk)
  rwa [Int.toNat_natCast]at this
 have hV:=allV_at h hE hS hl0 (allV_start hv) t (by omega);have hp:=part_w h hE (Lf h hE hS) (Vi gs.length k0 v0) hl0 t (by omega);rw[start_w h hk0]at hp;have e0:Zt (fun _=>1) (Vi gs.length k0 v0).2=0:=rfl;have hd:R.drop t=(k:Int)::R.drop (t+1):=by rw[←ek,Km ht,List.getElem_cons_drop]
 have e:Ku (fun k _=>wdP gs R k) (Qi gs (R.take t) (Vi gs.length k0 v0)).1 ((k:Int)::R.drop (t+1))=Zt (fun _=>wdP gs R k) (el (Qi gs (R.take t) (Vi gs.length k0 v0)).1 k)+Ku (fun k _=>wdP gs R k) (Qi gs (R.take t) (Vi gs.length k0 v0)).1 (R.drop (t+1)):=by
  unfold Ku;simp only[Zt,Int.toNat_natCast]
 rw[hd,e]at hp
 generalize hsd:Qi gs (R.take t) (Vi gs.length k0 v0)=s at hlt hV hp
 have hs1:∀a∈R,∀x:Int,1≤(fun(k:Nat) (_:Int)=>wdP gs R k) a.toNat x:=fun a ha _=>by
  obtain⟨j,hj,rfl⟩:=h.rng a ha;rw[Int.toNat_natCast];exact Yi h hE hS hj
 have hf:=fold_w (Lf h hE hS) hk (h.drop_nodup (t+1)) (h.next hE ht ek) ((el s.1 k).take i) s (by rw[hlt];exact h.places);have hsplit:Zt (fun _:Int=>wdP gs R k) (el s.1 k)=Zt (fun _:Int=>wdP gs R k) ((el s.1 k).take i)+Zt (fun _:Int=>wdP gs R k) ((el s.1 k).drop i):=by rw[←Wb,List.take_append_drop]
 have hnn:0≤Zt (fun _:Int=>wdP gs R k) ((el s.1 k).drop i):=Xa fun _ _=>by have:=Yi h hE hS hk;omega
 have hone:((sT gs s k i).2.length:Int)≤Zt (fun _=>1) (sT gs s k i).2:=Wk fun _ _=>Int.le_refl _
 have hone0:0≤Zt (fun _=>1) (sT gs s k i).2:=Xa fun _ _=>by omega
 have hw0:0≤Ku (fun k _=>wdP gs R k) (sT gs s k i).1 (R.drop (t+1)):=Xa fun a ha=>Xa fun x _=>by have:=hs1 a (List.mem_of_mem_drop ha) x;dsimp only at this ⊢;omega
 have hf':Zt (fun _=>1) (sT gs s k i).2+Ku (fun k _=>wdP gs R k) (sT gs s k i).1 (R.drop (t+1))≤Zt (fun _=>1) s.2+Zt (fun _=>wdP gs R k) ((el s.1 k).take i)+Ku (fun k _=>wdP gs R k) s.1 (R.drop (t+1)):=hf;have hse:el (sT gs s k i).1 k=el s.1 k:=Bg (hE.rng k hk) hself _ _ hlt;have hown:((el s.1 k).length:Int)≤Zt (fun _:Int=>wdP gs R k) (el s.1 k):=Wk fun _ _=>Yi h hE hS hk
 have hone1:0≤Zt (fun _=>1) s.2:=Xa fun _ _=>by omega
 have hw1:0≤Ku (fun k _=>wdP gs R k) s.1 (R.drop (t+1)):=Xa fun a ha=>Xa fun x _=>by have:=hs1 a (List.mem_of_mem_drop ha) x;dsimp only at this ⊢;omega
 refine⟨by rw[sT_len,hlt],hself,?_,?_,by omega,by rw[hse];omega,fun j hj=>?_⟩
 ·rw[hsd];exact Bg (hE.rng k hk) hself _ _ hlt
 ·exact Dy (hS k hk) (hE.rng k hk) _ _ hlt (fun v hv=>hV k v (List.mem_of_mem_take hv)) hV
 ·have:=wRows_row (I:=(sT gs s k i).1) (φ:=fun k _=>wdP gs R k) (fun a ha x=>hs1 a (List.mem_of_mem_drop ha) x) (h.next hE ht ek _ hj)
  omega
end
end
structure Hands(g:Nat)(W:World)(xs:List Value)(ls:List (List Int)):Prop where
 len:xs.length=ls.length
 head:W.ownsRow g 25 1 (.slice (some ⟨g,0,none⟩) ls.length ls.length) ls.length xs
 row:∀j,j<ls.length→kI.Own (g+1) W (el xs j) (el ls j)
 off:∀i j,i<j→j<ls.length→∀b,(el xs i).ownBlock=some b→(el xs j).ownBlock≠some b
theorem Hands.later{g:Nat}{W W':World}{xs:List Value}{ls:List (List Int)}(h:Hands g W xs ls)(hb:Below W.1.size W W'):Hands g W' xs ls :=
 ⟨h.len,Ym h.head hb,fun j hj=>(h.row j hj).below hb,h.off⟩
theorem Hands.size{g:Nat}{W:World}{xs:List Value}{ls:List (List Int)}(h:Hands g W xs ls):g<W.1.size:=(Jt h.head).2
theorem Hands.put{g t:Nat}{W W':World}{xs:List Value}{ls:List (List Int)}{v:Value}{x:List Int}(h:Hands g W xs ls)(ht:t<ls.length)(hO:kI.Own (g+1) W' v x)(hG:W.grownBy W' (el xs t).ownBlock)(hw:∀b,v.ownBlock=some b→(el xs t).ownBlock=some b∨W.1.size≤b) :
  Hands g (W'.setCell ⟨g,t,none⟩ v) (xs.set t v) (ls.set t x):=by
 have hx:t<xs.length:=by rw[h.len];exact ht
 have hkeep:∀b,b<W.1.size→(el xs t).ownBlock≠some b→W'.heap[b]? = W.heap[b]? := fun b hb hne=>hG.block b hb (fun e=>hne e.symm)
 have hgne:(el xs t).ownBlock≠some g:=fun e=>by have:=(Zj (h.row t ht) e).1;omega
 have hset:∀b,b≠g→(W'.setCell ⟨g,t,none⟩ v).heap[b]? = W'.heap[b]? := fun b hb=>Below.heap_setCell _ _ _ _ hb
 have hhead:W'.ownsRow g 25 1 (.slice (some ⟨g,0,none⟩) ls.length ls.length) ls.length xs:=Ji h.head (hkeep g h.size hgne);refine⟨by simp[h.len],?_,?_,?_⟩
 ·rw[List.length_set];exact(hhead.stored t v).1
 ·intro j hj;rw[List.length_set]at hj
  by_cases e:j=t
  ·subst e;rw[Zh hx,Zh ht];exact Za hO fun b hb=>hset b (by have:=(Zj hO hb).1;omega)
  ·rw[Zm e,Zm e];refine Za (h.row j hj) fun b hb=>?_
   have hbl:=Zj (h.row j hj) hb;rw[hset b (by omega)];refine hkeep b hbl.2 fun e'=>?_
   rcases Nat.lt_or_ge j t with hjt|hjt
   ·exact h.off j t hjt ht b hb e'
   ·exact h.off t j (by omega) hj b e' hb
 ·intro i j hij hj b hi;rw[List.length_set]at hj
  by_cases e1:i=t
  ·subst e1;rw[Zh hx]at hi;rw[Zm (by omega)];intro hjb
   rcases hw b hi with h1|h1
   ·exact h.off i j hij hj b h1 hjb
   ·have:=(Zj (h.row j hj) hjb).2;omega
  ·rw[Zm e1]at hi
   by_cases e2:j=t
   ·subst e2;rw[Zh hx];intro hjb
    rcases hw b hjb with h1|h1
    ·exact h.off i j hij hj b hi h1
    ·have:=(Zj (h.row i (by omega)) hi).2;omega
   ·rw[Zm e2];exact h.off i j hij hj b hi
theorem Hands.mid{g t:Nat}{W W':World}{xs:List Value}{ls:List (List Int)}(h:Hands g W xs ls)(ht:t<ls.length)(hG:W.grownBy W' (el xs t).ownBlock):W'.ownsRow g 25 1 (.slice (some ⟨g,0,none⟩) ls.length ls.length) ls.length xs :=
 Ji h.head (hG.block g h.size fun e=>by have:=(Zj (h.row t ht) e.symm).1;omega)
theorem Hands.slice{g j:Nat}{W:World}{xs:List Value}{ls:List (List Int)}(h:Hands g W xs ls)(hj:j<ls.length):∃o c,el xs j=.slice o (el ls j).length c∧(o=none→c=0)∧kI.Fresh (g+1) W.1.size W o c (el ls j):=(h.row j hj).fresh
theorem hands_made{g n:Nat}{W:World}(h:W.ownsRow g 25 1 (.slice (some ⟨g,0,none⟩) n n) n (madeCells (Value.slice none 0 0).cells (n*1)).toList):∃xs,Hands g W xs (List.replicate n []):=by
 have e:(madeCells (Value.slice none 0 0).cells (n*1)).toList=List.replicate (n*1) (.slice none 0 0):=toList_madeCells_one _ _;rw[e,Nat.mul_one]at h;have hel:∀j,j<n→el (List.replicate n (Value.slice none 0 0)) j=.slice none 0 0:=fun j hj=>by simp[el,hj]
 refine⟨List.replicate n (.slice none 0 0),by simp,by simpa using h,fun j hj=>?_,fun i j hij hj b hb=>?_⟩
 ·simp at hj
  rw[hel j hj,show el (List.replicate n ([]:List Int)) j=[]from by simp[el,hj]];exact Kind.Own.nil _ _ _
 ·simp at hj
  rw[hel i (by omega)]at hb
  simp[Value.ownBlock]at hb
def AnsEm(w:World)(em:List (Int×Int))(e:Ending)(w':World):Prop:=(∃go gc,e=.returned (.slice go em.length gc)∧(go=none→gc=0)∧kE.Fresh w.1.size w'.1.size w' go gc em)∧Below w.1.size w w'
theorem emitsAt_is(k:Int)(qo:Option Addr)(qc:Nat)(q:List Int)(w:World)(hl:q.length≤1000)(hz:kI.In w.1.size w qo q) :
  Calls prog 246 #[.int .i64 k,.slice qo q.length qc] w (AnsEm w (q.map fun x=>(k,x))):=by
 have HZ:=Zd hz;clear hz;go_enter func246,ntmps246;go_wp2
 go_loopw [5,10] (fun u j wr=>∃(m:Nat),j=.int .i64 (m:Int)∧m≤q.length∧Zi (kE.Own w.1.size wr u ((q.take m).map fun x=>(k,x)))∧Below w.1.size w wr) (fun _ j _=>q.length-(intOf j).toNat)
 case atStart=>exact⟨0,rfl,Nat.zero_le _,(by rw[List.take_zero];exact Kind.Own.nil _ _ _),Below.refl _ _⟩
 case round =>
  obtain⟨m,rfl,hm,hO,hB⟩:=hrel
  by_cases hmq:m<q.length
  ·obtain⟨bq,oq,rfl,hbq,hcq⟩:=Zo HZ.o hmq;have cm:=(hB.cell (p:=⟨bq,oq+m,none⟩) hbq).trans (hcq m hmq);have HT:Zi (((q.take m).map fun x=>(k,x))++[(k,el q m)]=(q.take (m+1)).map fun x=>(k,x)):=by rw[Zi,Zy hmq,List.map_append];rfl
   have hmi:(m:Int)<(q.length:Int):=by omega
   generalize el q m=x at cm HT
   have hlm:((q.take m).map fun x=>(k,x)).length=m:=by simp;omega
   generalize((q.take m).map fun x=>(k,x))=em at hO HT hlm
   obtain⟨go,gc,rfl⟩:=Ta hO.o;obtain⟨V,hVV⟩:=nmd (wr.alloc (.cells #[.int .i64 k,.int .i64 x] 199));have HBV:Below wr.1.size wr V:=by rw[hVV];exact Zk _ _
   have OV:=Zd (hO.o.below HBV);have HN:Zi (kE.In V.1.size V (some ⟨wr.1.size,0,none⟩) [(k,x)]):=emits_mk (by rw[hVV];simp) (by rw[hVV];simp) (by rw[hVV];simp);have hLV:w.1.size≤V.1.size:=Nat.le_trans hB.size HBV.size;have hBV:=Zd (hB.trans (HBV.mono hB.size));have HVV:=Zd hVV;clear hVV HBV hcq;go_wp2_with (at_builtin;rw[←HVV.o];refine Kq kE_ok V rfl (.tmp 14) (.tmp 18) rfl w.1.size (.slice go em.length gc) em rfl OV.o hLV (some ⟨wr.1.size,0,none⟩) [(k,x)] 1 1 rfl rfl (by simp) _ HN.o (by simp;omega) ?_;intro v2 w2 hOa hBa hGa hna;rw[HT.o]at hOa;have OA:=Zd hOa;have BA:=hBV.o.trans hBa;clear hOa hBa hGa hna);go_roundw
   case rel=>exact⟨m+1,by go_num,by omega,OA,BA⟩
   case measure=>simp[intOf];omega
  ·obtain rfl:m=q.length:=by omega
   rw[List.take_length]at hO;clear hmq;go_wp2;go_ret;obtain⟨go,gc,rfl,hno,hF⟩:=hO.o.fresh;exact⟨⟨go,gc,rfl,hno,hF⟩,hB⟩
structure EmI(g:Nat)(W:World)(xs:List Value)(I:List (List Int))(ev:Value)(em:List (Int×Int)):Prop where
 hands:Hands g W xs I
 em:kE.Own (g+1) W ev em
 off:∀j,j<I.length→∀b,ev.ownBlock=some b→(el xs j).ownBlock≠some b
theorem EmI.later{g:Nat}{W W':World}{xs:List Value}{I:List (List Int)}{ev:Value}{em:List (Int×Int)}(h:EmI g W xs I ev em)(hb:Below W.1.size W W'):EmI g W' xs I ev em:=⟨h.hands.later hb,h.em.below hb,h.off⟩
theorem EmI.put{g t:Nat}{W W':World}{xs:List Value}{I:List (List Int)}{ev:Value}{em:List (Int×Int)}{v:Value}{x:List Int}(h:EmI g W xs I ev em)(ht:t<I.length)(hO:kI.Own (g+1) W' v x)(hG:W.grownBy W' (el xs t).ownBlock)(hw:∀b,v.ownBlock=some b→(el xs t).ownBlock=some b∨W.1.size≤b) :
  EmI g (W'.setCell ⟨g,t,none⟩ v) (xs.set t v) (I.set t x) ev em:=by
 refine⟨h.hands.put ht hO hG hw,Za h.em fun b hb=>?_,fun j hj b hb=>?_⟩
 ·have hl:=Zj h.em hb;rw[Below.heap_setCell _ _ _ _ (by dsimp only;omega)];exact hG.block b hl.2 fun e=>h.off t ht b hb e.symm
 ·rw[List.length_set]at hj;have hx:t<xs.length:=by rw[h.hands.len];exact ht
  by_cases e:j=t
  ·subst e;rw[Zh hx];intro hvb
   rcases hw b hvb with h1|h1
   ·exact h.off j ht b hb h1
   ·have:=(Zj h.em hb).2;omega
  ·rw[Zm e];exact h.off j hj b hb
theorem EmI.emit{g:Nat}{W W':World}{xs:List Value}{I:List (List Int)}{ev ev':Value}{em em':List (Int×Int)}(h:EmI g W xs I ev em)(hO:kE.Own (g+1) W' ev' em')(hG:W.grownBy W' ev.ownBlock)(hw:∀b,ev'.ownBlock=some b→ev.ownBlock=some b∨W.1.size≤b):EmI g W' xs I ev' em':=by
 have hgb:W'.heap[g]? = W.heap[g]? := hG.block g h.hands.size fun e=>by have:=(Zj h.em e.symm).1;omega
 refine⟨⟨h.hands.len,Ji h.hands.head hgb,fun j hj=>Za (h.hands.row j hj) fun b hb=>hG.block b (Zj (h.hands.row j hj) hb).2 fun e=>h.off j hj b e.symm hb,h.hands.off⟩,hO,fun j hj b hb hx=>?_⟩
 rcases hw b hb with h1|h1
 ·exact h.off j hj b h1 hx
 ·have:=(Zj (h.hands.row j hj) hx).2;omega
structure ApR(g:Nat)(W:World)(xs:List Value)(n:Nat)(ev:Value)(qo:Option Addr)(q:List Int):Prop where
 row:kI.In W.1.size W qo q
 off:0<q.length→∀b o,qo=some ⟨b,o,none⟩→b≠g∧ev.ownBlock≠some b∧∀j,j<n→(el xs j).ownBlock≠some b
theorem ApR.later{g n:Nat}{W W':World}{xs:List Value}{ev:Value}{qo:Option Addr}{q:List Int}(h:ApR g W xs n ev qo q)(hb:Below W.1.size W W'):ApR g W' xs n ev qo q:=⟨h.row.later hb,h.off⟩
theorem ApR.new{g:Nat}{W W':World}{xs:List Value}{I:List (List Int)}{ev:Value}{em:List (Int×Int)}{qo:Option Addr}{qc:Nat}{q:List Int}(h:EmI g W xs I ev em)(hF:kI.Fresh W.1.size W'.1.size W' qo qc q):ApR g W' xs I.length ev qo q:=by
 refine⟨hF.in,fun h0 b o e=>?_⟩
 rcases hF with h1|⟨g5,e5,_,ho5⟩
 ·rw[h1]at h0;simp at h0
 ·rw[e]at e5
  simp at e5
  have h3:=(Jt ho5).1;refine⟨fun e'=>?_,fun e'=>?_,fun j hj e'=>?_⟩
  ·have:=h.hands.size;omega
  ·have:=(Zj h.em e').2;omega
  ·have:=(Zj (h.hands.row j hj) e').2;omega
theorem in_blocks{n:Nat}{W W':World}{qo:Option Addr}{q:List Int}(hz:kI.In W.1.size W qo q)(hs:W.1.size≤n)(hk:0<q.length→∀b o,qo=some ⟨b,o,none⟩→b<W.1.size→W'.heap[b]? = W.heap[b]?):kI.In n W' qo q:=by
 rcases Nat.eq_zero_or_pos q.length with h0|h0
 ·exact .inl (List.length_eq_zero_iff.1 h0)
 rcases hz with h|⟨b,off,e,hb,hc⟩
 ·exact .inl h
 ·exact .inr ⟨b,off,e,Nat.lt_of_lt_of_le hb hs,fun j hj i hi=>(World.cell?_of_block (a:=⟨b,off+j*kI.sz+i,none⟩) (hk h0 b off e hb)).trans (hc j hj i hi)⟩
theorem ApR.put{g t n:Nat}{W W':World}{xs:List Value}{ev v:Value}{qo:Option Addr}{q:List Int}(h:ApR g W xs n ev qo q)(ht:t<n)(hx:t<xs.length)(hG:W.grownBy W' (el xs t).ownBlock)(hw:∀b,v.ownBlock=some b→(el xs t).ownBlock=some b∨W.1.size≤b):ApR g (W'.setCell ⟨g,t,none⟩ v) (xs.set t v) n ev qo q:=by
 refine⟨in_blocks h.row (by have:=hG.size;simpa[World.setCell]using this) fun h0 b o e hb=>?_,fun h0 b o e=>?_⟩
 ·have ha:=h.off h0 b o e;rw[Below.heap_setCell _ _ _ _ (by exact ha.1)];exact hG.block b hb fun e'=>ha.2.2 t ht e'.symm
 ·have ha:=h.off h0 b o e;refine⟨ha.1,ha.2.1,fun j hj=>?_⟩
  by_cases e1:j=t
  ·subst e1;rw[Zh hx];intro hvb
   rcases hw b hvb with h1|h1
   ·exact ha.2.2 j ht h1
   ·rcases h.row with h2|⟨b',o',e',hb',_⟩
    ·rw[h2]at h0;simp at h0
    ·cases e.symm.trans e';omega
  ·rw[Zm e1];exact ha.2.2 j hj
theorem ApR.emit{g n:Nat}{W W':World}{xs:List Value}{ev ev':Value}{qo:Option Addr}{q:List Int}(h:ApR g W xs n ev qo q)(hG:W.grownBy W' ev.ownBlock)(hw:∀b,ev'.ownBlock=some b→ev.ownBlock=some b∨W.1.size≤b):ApR g W' xs n ev' qo q:=by
 refine⟨in_blocks h.row hG.size fun h0 b o e hb=>hG.block b hb fun e'=>(h.off h0 b o e).2.1 e'.symm,fun h0 b o e=>⟨(h.off h0 b o e).1,fun e'=>?_,(h.off h0 b o e).2.2⟩⟩
 rcases hw b e' with h1|h1
 ·exact(h.off h0 b o e).2.1 h1
 ·rcases h.row with h2|⟨b',o',e2,hb',_⟩
  ·rw[h2]at h0;simp at h0
  ·cases e.symm.trans e2;omega
def NW(n:Nat)(W:World)(ao:Option Addr)(gs:List PNode):Prop:=∀k,k<gs.length→∃b off nm cp nxo nxc,ao=some ⟨b,off,none⟩∧b<n∧W.cell? ⟨b,off+k*6,none⟩=some (.string nm)∧W.cell? ⟨b,off+k*6+1,none⟩=some (.int .i64 (el gs k).2.1)∧W.cell? ⟨b,off+k*6+2,none⟩=some (.int .i64 (el gs k).2.2.1)∧W.cell? ⟨b,off+k*6+3,none⟩=some (.int .i64 (el gs k).2.2.2.1)∧W.cell? ⟨b,off+k*6+4,none⟩=some (.int .i64 cp)∧W.cell? ⟨b,off+k*6+5,none⟩=some (.slice nxo (nxP gs k).length nxc)∧kI.In n W nxo (nxP gs k)
theorem nw_of{n:Nat}{W:World}{ao:Option Addr}{ts:List LNode}(hz:DIn Ja n W ao ts):NW n W ao (ts.map Zz):=fun k hk=>by
 rw[Zb]at hk;obtain⟨b,off,e,hb,hc⟩:=Qw hz.1 hk;have d:=hc k hk;have hin:=hz.2 k hk;have hev:nxP (ts.map Zz) k=(el ts k).2.2.2.2.2.2.2:=by rw[nxP,Jz hk];rfl
 rw[hev,Jz hk];exact⟨b,off,_,_,_,_,e,hb,d.1,d.2.1,d.2.2.1,d.2.2.2.1,d.2.2.2.2.1,d.2.2.2.2.2,hin⟩
theorem in_low{n:Nat}{W W':World}{qo:Option Addr}{q:List Int}(hz:kI.In n W qo q)(hb:Below n W W'):kI.In n W' qo q:=by
 rcases hz with h|⟨b',o',e',hb',hc'⟩
 ·exact .inl h
 ·exact .inr ⟨b',o',e',hb',fun j hj i hi=>(hb.cell (p:=⟨b',_,none⟩) hb').trans (hc' j hj i hi)⟩
theorem NW.below{n:Nat}{W W':World}{ao:Option Addr}{gs:List PNode}(h:NW n W ao gs)(hb:Below n W W'):NW n W' ao gs:=fun k hk=>by
 obtain⟨b,off,nm,cp,nxo,nxc,e,hbn,c0,c1,c2,c3,c4,c5,hi⟩:=h k hk;exact⟨b,off,nm,cp,nxo,nxc,e,hbn,(hb.cell (p:=⟨b,_,none⟩) hbn).trans c0,(hb.cell (p:=⟨b,_,none⟩) hbn).trans c1,(hb.cell (p:=⟨b,_,none⟩) hbn).trans c2,(hb.cell (p:=⟨b,_,none⟩) hbn).trans c3,(hb.cell (p:=⟨b,_,none⟩) hbn).trans c4,(hb.cell (p:=⟨b,_,none⟩) hbn).trans c5,in_low hi hb⟩
theorem Hands.headAt{g k:Nat}{W:World}{xs:List Value}{ls:List (List Int)}(h:Hands g W xs ls)(hk:k<ls.length):W.cell? ⟨g,k,none⟩=some (el xs k)∧W.frozen? ⟨g,k,none⟩=false:=by
 have hx:k<xs.length:=by rw[h.len];exact hk
 refine⟨(h.head.cellAt k (by omega)).trans ?_,h.head.frozenAt k⟩
 simp[el,hx]
theorem Hands.midAt{g k:Nat}{W W':World}{xs:List Value}{ls:List (List Int)}(h:Hands g W xs ls)(hk:k<ls.length)(hG:W.grownBy W' (el xs k).ownBlock):W'.cell? ⟨g,k,none⟩=some (el xs k)∧W'.frozen? ⟨g,k,none⟩=false:=by
 have hx:k<xs.length:=by rw[h.len];exact hk
 have hm:=h.mid hk hG;refine⟨(hm.cellAt k (by omega)).trans ?_,hm.frozenAt k⟩
 simp[el,hx]
theorem own_oneI{lo:Nat}{W:World}{z:Int}(h:lo≤W.1.size):kI.Own lo (W.alloc (.cells #[.int .i64 z] 3)) (.slice (some ⟨W.1.size,0,none⟩) 1 1) [z]:=by
 rcases Rh (z:=z) h with h1|⟨g5,e5,_,ho5⟩
 ·simp at h1
 ·simp at e5
  subst e5;exact ho5
theorem Tryz.info25:(prog.info? 25).map (fun i=>(i.zero,i.size,i.bytes))=some (some (.slice none 0 0),1,24):=by kernel_rfl
theorem emitsOf_is(ao:Option Addr)(cap:Nat)(ts:List LNode)(w:World)(k0:Nat)(v0:Int)(hE:EdgesIn (ts.map Zz))(hR:¬(Zv (ts.map Zz)).length<(ts.map Zz).length)(hS:Wy (ts.map Zz))(hk0:k0<ts.length)(hv0:Ju v0=true)(hw:Ue (ts.map Zz)≤100000)(hF:FitN ts)(hz:DIn Ja w.1.size w ao ts) :
  Calls prog 210 #[.slice ao ts.length cap,.int .i64 (k0:Int),.int .i64 v0] w (AnsEm w (emitP (ts.map Zz) k0 v0)):=by
 obtain⟨i0,hi,hz0,hz1,hz2⟩:=info_parts Tryz.info25;have hgl:(ts.map Zz).length=ts.length:=Zb ts;have h10:ts.length≤10:=by have:=hE.many;omega
 have HO:=Zd (Ka hR);have HNW:=Zd (nw_of hz);have HORD:=Zd (fun(W:World) (hW:Below w.1.size w W)=>Yo ao cap ts W (by omega) hF (hz.later Zf hW));have HW:=Zd (Int.le_trans (wdP_le (gs:=ts.map Zz) (k:=k0) (by omega)) hw);have HS:=Zd hS;have HE:=Zd hE;have HP:Zi (emitP (ts.map Zz) k0 v0=(Qi (ts.map Zz) (Zv (ts.map Zz)) (Vi (ts.map Zz).length k0 v0)).2):=rfl;obtain⟨P,hP⟩:=nmd (emitP (ts.map Zz) k0 v0);rw[←hP]at HP ⊢;clear hP hz hw hS hE hR hF
 generalize Zv (ts.map Zz)=R at HO HORD HW HP
 generalize ts.map Zz=gs at hgl HO HNW HW HS HE HP
 have hRl:R.length≤10:=by rw[HO.o.len,hgl];exact h10
 obtain⟨s0,hs0⟩:=nmd (Vi gs.length k0 v0);have HAT:Zi (∀t k i:Nat,t<R.length→el R t=(k:Int)→k<gs.length→At gs R s0 t k i (sT gs (Qi gs (R.take t) s0) k i)):=fun t k i ht ek hk=>by rw[hs0];exact at_is HO.o HE.o HS.o (by omega) hv0 HW.o ht ek hk
 have HS0:Zi (s0=((List.replicate ts.length []).set k0 [v0],[])):=by rw[Zi,hs0,hgl];rfl
 rw[←hs0]at HP;clear hs0;have hki:(k0:Int)<(ts.length:Int):=by omega
 go_enter func210,ntmps210;go_wp2_with (at_make;refine wpList_make_full _ rfl _ _ 276 rfl w.1.size 25 i0 (.slice none 0 0) 1 underlying276 hi hz0 hz1 .i64 .i64 _ _ ts.length rfl rfl rfl rfl (by rw[hz2];omega) (by unfold maxLen;omega) (Nat.le_refl _) ?_;intro wA hown hgrow;have hBA:Below w.1.size w wA:=(Below.refl _ _).grown hgrow (Nat.le_refl _) (fun k e=>by cases e);obtain⟨xsA,HAA⟩:=hands_made hown;have HA:=Zd HAA;have cA:=((HAA.later (Zk wA (.cells #[.int .i64 v0] 3))).headAt (k:=k0) (by simpa using hk0)).1;have fA:=((HAA.later (Zk wA (.cells #[.int .i64 v0] 3))).headAt (k:=k0) (by simpa using hk0)).2;clear hown hgrow HAA);obtain⟨wB,hWB⟩:=nmd ((wA.alloc (.cells #[.int .i64 v0] 3)).setCell ⟨w.1.size,k0,none⟩ (.slice (some ⟨wA.1.size,0,none⟩) 1 1));rw[←hWB];have hBB:Below w.1.size w wB:=by rw[hWB];exact(Zx hBA _).setCell (p:=⟨w.1.size,k0,none⟩) (Nat.le_refl _) _
 obtain⟨xsB,HEB⟩:∃xsB,Zi (EmI w.1.size wB xsB s0.1 (.slice none 0 0) s0.2):=by
  have hg:=HA.o.size;have hE0:EmI w.1.size wA xsA (List.replicate ts.length []) (.slice none 0 0) []:=⟨HA.o,Kind.Own.nil _ _ _,fun _ _ b h=>by simp[Value.ownBlock]at h⟩;have hp:=hE0.put (t:=k0) (W':=wA.alloc (.cells #[.int .i64 v0] 3)) (by simpa using hk0) (own_oneI (z:=v0) (by omega)) ((World.grownBy_alloc wA (.cells #[.int .i64 v0] 3) _)) (fun b hb=>.inr (by simp[Value.ownBlock]at hb;omega));refine⟨xsA.set k0 (.slice (some ⟨wA.1.size,0,none⟩) 1 1),?_⟩;rw[HS0.o,hWB];exact hp
 have hlB:=HS0.o;clear hWB hBA HA cA fA hlB;refine(HORD.o wB hBB).mono ?_;rintro e w1 ⟨⟨ro,rc,rfl,hFR⟩,hb1⟩;have HEB1:=Zd (HEB.o.later hb1);have HRR:=Zd (ApR.new HEB.o hFR);have hB1:Below w.1.size w w1:=hBB.trans (hb1.mono hBB.size);have hls:s0.1.length=gs.length:=by rw[HS0.o,hgl];simp
 clear hFR hb1 HEB hBB;dsimp only;rw[hls]at HRR;clear hki HORD hi hz0 hz1 hz2 hv0;go_wp2
 go_loopw [8,27] (fun u j wr=>∃(t:Nat)(xs:List Value),j=.int .i64 (t:Int)∧t≤R.length∧Zi (EmI w.1.size wr xs (Qi gs (R.take t) s0).1 u (Qi gs (R.take t) s0).2)∧Zi (ApR w.1.size wr xs gs.length u ro R)∧Below w.1.size w wr) (fun _ j _=>R.length-(intOf j).toNat)
 case atStart=>exact⟨0,xsB,rfl,Nat.zero_le _,(by rw[List.take_zero];exact HEB1),HRR,hB1⟩
 case round =>
  rename World=>wo
  obtain⟨t,xs,rfl,ht,hEm,hAR,hB⟩:=hrel;clear HEB1 HRR hB1
  by_cases htr:t<R.length
  ·obtain⟨k,hk,ek⟩:=HO.o.rng _ (Zl htr);have HEK:=Zd ek;have HAK:=Zd (fun i=>HAT.o t k i htr ek hk);have HSU:=Zd (Bl (gs:=gs) s0 htr ek);obtain⟨bq,oq,rfl,hbq,hcq⟩:=Zo hAR.o.row htr;have cR:=hcq t htr;rw[ek]at cR;obtain⟨s,hs⟩:=nmd (Qi gs (R.take t) s0);have hsl:s.1.length=gs.length:=by rw[hs,Ye,hls]
   rw[←hs]at HAK HSU hEm;have HROW:Zi (∀i,At gs R s0 t k i (sT gs s k i)∧el (sT gs s k i).1 k=el s.1 k):=fun i=>⟨HAK.o i,by rw[(HAK.o i).row,hs]⟩
   have HSL:=Zd hsl;clear hcq ek hs HAK HAT;obtain⟨lo,lc,hxk,_,_⟩:=hEm.o.hands.slice (j:=k) (by omega);have cH:=(hEm.o.hands.headAt (k:=k) (by omega)).1;rw[hxk]at cH;have HXK:=Zd hxk;have HAL:=Zd (sT_all (gs:=gs) s k);have HLE:Zi (∀i,i<(el s.1 k).length→sT gs s k (i+1)=Nu gs k (sT gs s k i) (el (el s.1 k) i)):=fun i hi=>sT_succ s k hi
   obtain⟨L,hL⟩:=nmd (el s.1 k);rw[←hL]at cH HXK HAL HLE HROW;have hkt:(k:Int)<(ts.length:Int):=by omega
   have htr':(t:Int)<(R.length:Int):=by omega
   have hLL:L.length≤100000:=by
    have:=(HROW.o 0).1.own;rw[(HROW.o 0).2]at this;exact this
   clear hxk hL hsl;go_wp2
   go_loopw [8,36] (fun u j2 wr2=>∃(i:Nat)(xs2:List Value)(ev:Value),ev=u∧j2=.int .i64 (i:Int)∧i≤L.length∧Zi (EmI w.1.size wr2 xs2 (sT gs s k i).1 ev (sT gs s k i).2)∧Zi (el xs2 k=.slice lo L.length lc)∧Zi (ApR w.1.size wr2 xs2 gs.length ev (some ⟨bq,oq,none⟩) R)∧Below w.1.size w wr2) (fun _ j2 _=>L.length-(intOf j2).toNat)
   case atStart=>exact⟨0,xs,_,rfl,rfl,Nat.zero_le _,(by rw[sT_zero];exact hEm),HXK,hAR,hB⟩
   case round =>
    rename World=>wm
    obtain⟨i,xs2,ev,rfl,rfl,hi,hEm2,hXK2,hAR2,hB2⟩:=hrel
    by_cases hiL:i<L.length
    ·have hiL':(i:Int)<(L.length:Int):=by omega
     have hrow:=hEm2.o.hands.row k (by rw[(HROW.o i).1.len];exact hk);rw[hXK2.o,(HROW.o i).2]at hrow;obtain⟨lo',lc',e',_,hIn⟩:=hrow.in;obtain⟨rfl,rfl⟩:lo=lo'∧lc=lc':=by simp at e';exact e'
     obtain⟨bl,ol,rfl,hbl,hcl⟩:=Zo hIn hiL;have cL:=hcl i hiL;have HX:=Zd ((HROW.o i).1.val k (el L i) (by rw[(HROW.o i).2];exact Zl hiL));have HST:=Zd (HLE.o i hiL);have HA1:=Zd (HROW.o (i+1)).1
     generalize el L i=x at cL HX HST
     clear hcl hrow hIn e';obtain⟨b,off,nm,cp,nxo,nxc,rfl,hb,c0,c1,c2,c3,c4,c5,hI⟩:=(HNW.o.below hB2) k hk;have HC:=Zd (letThrough_is (el gs k).2.1 (el gs k).2.2.1 (el gs k).2.2.2.1 x wm (HS.o k hk) HX.o);rw[←outM_S]at HC;have hql:(Tb gs k x).length≤3:=by
      have h1:=Hp (HS.o k hk) x;have h2:=(Gf (el gs k).2.1 (el gs k).2.2.1 (el gs k).2.2.2.1).2
      omega
     rw[Nu]at HST;have hnl:(nxP gs k).length≤10:=HE.o.few k hk;have HPL:=Zd (HE.o.rng k hk);have HSF:=Zd (HROW.o i).1.self
     generalize(el gs k).2.1=kd at c1 HC
     generalize(el gs k).2.2.1=sa at c2 HC
     generalize(el gs k).2.2.2.1=sb at c3 HC
     have HWD:=Zd HA1.o.wide;rw[HST.o]at HWD
     generalize Tb gs k x=q at HC hql HST HWD
     generalize nxP gs k=nx at c5 hI HST HWD hnl HPL HSF
     have HLN:=Zd (HROW.o i).1.len;have HEMB:=Zd (HROW.o i).1.em
     generalize sT gs s k i=S at hEm2 HST HWD HLN HEMB
     obtain⟨I,em⟩:=S;dsimp only at hEm2 HST HWD HLN HEMB;have HI:=Zd hI;clear hI HA1;go_wp2_with fail;refine HC.o.mono ?_;rintro e w2 ⟨⟨qo,qc,rfl,hno,hFQ⟩,hb2⟩;have HEm:=Zd (hEm2.o.later hb2);have HAQ:=Zd (ApR.new hEm2.o hFQ);rw[HLN.o]at HAQ;have HAR:=Zd (hAR2.o.later hb2);have hBw:Below w.1.size w w2:=hB2.trans (hb2.mono hB2.size);have hbn:b<wm.1.size:=Nat.lt_of_lt_of_le hb hB2.size;have d0:=(hb2.cell (p:=⟨b,off+k*6,none⟩) hbn).trans c0;have d1:=(hb2.cell (p:=⟨b,off+k*6+1,none⟩) hbn).trans c1;have d2:=(hb2.cell (p:=⟨b,off+k*6+2,none⟩) hbn).trans c2;have d3:=(hb2.cell (p:=⟨b,off+k*6+3,none⟩) hbn).trans c3;have d4:=(hb2.cell (p:=⟨b,off+k*6+4,none⟩) hbn).trans c4;have d5:=(hb2.cell (p:=⟨b,off+k*6+5,none⟩) hbn).trans c5;have HI2:=Zd (in_low HI.o (hb2.mono hB2.size));clear hFQ HC c0 c1 c2 c3 c4 c5 cL hEm2 hAR2 HI hb2;dsimp only;go_wp2
     go_loopw [53] (fun j3 wr3=>∃(m:Nat)(xs3:List Value),j3=.int .i64 (m:Int)∧m≤nx.length∧Zi (EmI w.1.size wr3 xs3 (Qn q (nx.take m) I) ev em)∧Zi (el xs3 k=.slice (some ⟨bl,ol,none⟩) L.length lc)∧Zi (ApR w.1.size wr3 xs3 gs.length ev (some ⟨bq,oq,none⟩) R)∧Zi (ApR w.1.size wr3 xs3 gs.length ev qo q)∧Below w.1.size w wr3∧Below w.1.size w2 wr3) (fun j3 _=>nx.length-(intOf j3).toNat)
     case atStart=>exact⟨0,xs2,rfl,Nat.zero_le _,(by rw[List.take_zero];exact HEm),hXK2,HAR,HAQ,hBw,Below.refl _ _⟩
     case round =>
      rename World=>wi
      obtain⟨m,xs3,rfl,hm,hEm3,hXK3,hAR3,hAQ3,hB3,hBB3⟩:=hrel;have hgw:=hEm3.o.hands.size
      by_cases hmn:m<nx.length
      ·have hmn':(m:Int)<(nx.length:Int):=by omega
       obtain⟨nb,no,rfl,hnb,hnc⟩:=Zo (in_low HI2.o hBB3) hmn;have cn:=hnc m hmn;obtain⟨j,hj,hyj⟩:=HPL.o (el nx m) (Zl hmn);have HJM:Zi ((j:Int)∈nx):=by rw[Zi,←hyj];exact Zl hmn
       have HSC:=Zd (intoAll_succ q hmn I);have HGR:Zi ((el (Qn q (nx.take m) I) j).length≤100000):=by
        have h1:=HWD.o j HJM.o;have h2:Qn q nx I=Qn q (nx.drop m) (Qn q (nx.take m) I):=by rw[←Pe,List.take_append_drop]
        rw[h2]at h1;exact Nat.le_trans (Rc q (nx.drop m) _ j (fun y hy=>by rw[Uz,HLN.o];exact HPL.o y (List.mem_of_mem_drop hy))) h1
       rw[hyj,Int.toNat_natCast]at HSC;rw[hyj]at cn;have hli:(Qn q (nx.take m) I).length=gs.length:=by rw[Uz];exact HLN.o
       generalize Qn q (nx.take m) I=I' at hEm3 HSC HGR hli
       obtain⟨ho,hc,hxj,hnoj,_⟩:=hEm3.o.hands.slice (j:=j) (by omega);have cJ:=(hEm3.o.hands.headAt (k:=j) (by omega)).1;have ORJ:=Zd (hEm3.o.hands.row j (by omega));have hjk:k≠j:=fun e=>HSF.o (by rw[e];exact HJM.o)
       have HXJ:=Zd hxj;rw[hxj]at cJ;have hjt:(j:Int)<(ts.length:Int):=by omega
       have hgr:=HGR.o;have HJK:=Zd hjk;clear hnc hyj hxj hjk;go_wp2_with (at_builtin;refine Kq Vq wi rfl (.tmp 62) (.tmp 63) rfl (w.1.size+1) (.slice ho (el I' j).length hc) (el I' j) rfl (by rw[←HXJ.o];exact ORJ.o) (by omega) qo q q.length qc rfl rfl hno _ hAQ3.o.row (by omega) ?_;intro v4 w4 hO4 hb4 hG4 hn4;rw[←HXJ.o]at hG4 hn4;have hmid:=hEm3.o.hands.midAt (k:=j) (by omega) hG4;have cJ4:=hmid.1;have fJ4:=hmid.2;have HO4:=Zd hO4;have HG4:=Zd hG4;have HN4:=Zd hn4;have HB4:=Zd hb4;obtain⟨vo4,vc4,rfl⟩:=Uu hO4;rw[List.length_append]at HO4 HN4;clear hO4 hG4 hn4 hmid hb4);go_roundw
       case rel =>
        have hxl:j<xs3.length:=by rw[hEm3.o.hands.len];omega
        refine⟨m+1,xs3.set j _,by go_num,by omega,(by rw[HSC.o];exact hEm3.o.put (by omega) HO4.o HG4.o HN4.o),(by rw[Zm HJK.o];exact hXK3),hAR3.o.put hj hxl HG4.o HN4.o,hAQ3.o.put hj hxl HG4.o HN4.o,?_,?_⟩
        ·exact(hB3.trans (HB4.o.mono (by omega))).setCell (p:=⟨w.1.size,j,none⟩) (Nat.le_refl _) _
        ·exact(hBB3.trans (HB4.o.mono (by omega))).setCell (p:=⟨w.1.size,j,none⟩) (Nat.le_refl _) _
       case measure=>simp[intOf];omega
      ·obtain rfl:m=nx.length:=by omega
       rw[List.take_length]at hEm3;have hie:=Ra nm kd sa sb cp nxo nx.length nxc wi;clear hmn;have e0:=(hBB3.cell (p:=⟨b,off+k*6,none⟩) hb).trans d0;have e1:=(hBB3.cell (p:=⟨b,off+k*6+1,none⟩) hb).trans d1;have e2:=(hBB3.cell (p:=⟨b,off+k*6+2,none⟩) hb).trans d2;have e3:=(hBB3.cell (p:=⟨b,off+k*6+3,none⟩) hb).trans d3;have e4:=(hBB3.cell (p:=⟨b,off+k*6+4,none⟩) hb).trans d4;have e5:=(hBB3.cell (p:=⟨b,off+k*6+5,none⟩) hb).trans d5
       by_cases h0:nx.length=0
       ·have h0':((nx.length:Int)==0)=true:=by simp[h0]
        rw[if_pos h0]at HST;rw[h0']at hie;have HIE:=Zd hie;clear hie h0 h0';go_wp2_with fail;refine HIE.o.mono ?_;rintro e w5 ⟨rfl,hb5⟩;have HE5:=Zd (hEm3.o.later hb5);have HR5:=Zd (hAR3.o.later hb5);have HQ5:=Zd (hAQ3.o.later hb5);have hB5:Below w.1.size w w5:=hB3.trans (hb5.mono hB3.size);have HCE:=Zd (emitsAt_is (k:Int) qo qc q w5 (by omega) HQ5.o.row);have hg5:=HE5.o.hands.size;have hemb:=HEMB.o;clear hb5 hEm3 hAR3 hAQ3;dsimp only;go_wp2_with fail;refine HCE.o.mono ?_;rintro e w6 ⟨⟨go6,gc6,rfl,hno6,hF6⟩,hb6⟩;have HE6:=Zd (HE5.o.later hb6);have HR6:=Zd (HR5.o.later hb6);have hB6:Below w.1.size w w6:=hB5.trans (hb6.mono hB5.size);have HF6:=Zd hF6.in;have hs6:=hb6.size;have hlq:(q.map fun x=>((k:Int),x)).length=q.length:=by simp
        clear hF6 hb6 HE5 HR5 HCE
        generalize(q.map fun x=>((k:Int),x))=em6 at HF6 hlq HST
        dsimp only;go_wp2_with (at_builtin;refine Kq kE_ok w6 rfl (.tmp 72) (.tmp 75) rfl (w.1.size+1) ev em rfl HE6.o.em (by omega) go6 em6 em6.length gc6 rfl rfl hno6 _ HF6.o (by omega) ?_;intro v7 w7 hO7 hb7 hG7 hn7;have HO7:=Zd hO7;have HG7:=Zd hG7;have HN7:=Zd hn7;have HB7:=Zd hb7;clear hO7 hb7 hG7 hn7);go_roundw
        case rel=>exact⟨i+1,xs3,_,rfl,by go_num,by omega,(by rw[HST.o];exact HE6.o.emit HO7.o HG7.o HN7.o),hXK3,HR6.o.emit HG7.o HN7.o,hB6.trans (HB7.o.mono (by omega))⟩
        case measure=>simp[intOf];omega
       ·have h0':((nx.length:Int)==0)=false:=by simp[h0]
        rw[if_neg h0]at HST;rw[h0']at hie;have HIE:=Zd hie;clear hie h0 h0';go_wp2_with fail;refine HIE.o.mono ?_;rintro e w5 ⟨rfl,hb5⟩;dsimp only;go_wp2;go_roundw
        case rel=>exact⟨i+1,xs3,ev,rfl,by go_num,by omega,(by rw[HST.o];exact hEm3.o.later hb5),hXK3,hAR3.o.later hb5,hB3.trans (hb5.mono hB3.size)⟩
        case measure=>simp[intOf];omega
    ·obtain rfl:i=L.length:=by omega
     rw[HAL.o,←HSU.o]at hEm2;clear hiL;go_wp2;go_roundw
     case rel=>exact⟨t+1,xs2,by go_num,by omega,hEm2,hAR2,hB2⟩
     case measure=>simp[intOf];omega
  ·obtain rfl:t=R.length:=by omega
   rw[List.take_length,←HP.o]at hEm;clear htr;go_wp2;go_ret;obtain⟨go,gc,rfl,hno,hF⟩:=hEm.o.em.fresh;exact⟨⟨go,gc,rfl,hno,hF.wide (by omega) (Nat.le_refl _)⟩,hB⟩
def ltE(a b:Int×Int):Bool:=decide (a.1<b.1)||(a.1==b.1 && decide (a.2<b.2))
theorem ltE_no{a b:Int×Int}:ltE a b=false↔(b.1<a.1∨(a.1=b.1∧b.2≤a.2)):=by
 simp[ltE];omega
theorem ltE_yes{a b:Int×Int}:ltE a b=true↔(a.1<b.1∨(a.1=b.1∧a.2<b.2)):=by
 simp[ltE]
theorem ltE_le{a b:Int×Int}(h:ltE a b=true):ltE b a=false:=by rw[ltE_no];rw[ltE_yes]at h;omega
theorem ltE_trans{a b c:Int×Int}(h1:ltE b a=false)(h2:ltE c b=false):ltE c a=false:=by rw[ltE_no]at *;omega
theorem ltE_eq{a b:Int×Int}(h1:ltE b a=false)(h2:ltE a b=false):a=b:=by
 rw[ltE_no]at h1 h2;exact Prod.ext (by omega) (by omega)
def Yz(l:List (Int×Int)):List (Int×Int):=l.mergeSort fun x y => !ltE y x
theorem Ps(l:List (Int×Int)):(Yz l).length=l.length:=by simp[Yz]
theorem Tw(l:List (Int×Int)):(Yz l).Pairwise fun a b=>ltE b a=false:=by
 refine(List.pairwise_mergeSort (le:=fun x y => !ltE y x) (fun a b c h1 h2=>?_) (fun a b=>?_) l).imp fun h=>by simpa using h
 ·simp at h1 h2 ⊢;exact ltE_trans h1 h2
 ·rcases h:ltE b a with _|_
  ·rfl
  ·simp[ltE_le h]
theorem Tx:∀(l r:List (Int×Int)),l.Perm r→l.Pairwise (fun a b=>ltE b a=false)→r.Pairwise (fun a b=>ltE b a=false)→l=r
 | [],r,h,_,_=>by rw[List.nil_perm.1 h]
 |x::l,[],h,_,_=>by have:=List.perm_nil.1 h;cases this
 |x::l,y::r,h,hl,hr=>by
  rw[List.pairwise_cons]at hl hr;have e:x=y:=by
   have h1:x∈y::r:=h.mem_iff.1 (by simp);have h2:y∈x::l:=h.mem_iff.2 (by simp);simp only[List.mem_cons]at h1 h2
   rcases h1 with h1|h1
   ·exact h1
   ·rcases h2 with h2|h2
    ·exact h2.symm
    ·exact ltE_eq (hl.1 y h2) (hr.1 x h1)
  subst e;rw[Tx l r (List.Perm.cons_inv h) hl.2 hr.2]
theorem elS_same{l:List (Int×Int)}{i:Nat}{a:Int×Int}(h:i<l.length):el (l.set i a) i=a:=by simp[el,h]
theorem Bo{l:List (Int×Int)}{i j:Nat}{a:Int×Int}(h:j≠i):el (l.set i a) j=el l j:=by simp[el,Ne.symm h]
def Nt(ys:List (Int×Int))(m:Nat):List (Int×Int):=(ys.set (m+1) (el ys m)).set m (el ys (m+1))
theorem Pl(ys:List (Int×Int))(m:Nat):(Nt ys m).length=ys.length:=by simp[Nt]
theorem swapL_a{ys:List (Int×Int)}{m:Nat}(h:m+1<ys.length):el (Nt ys m) m=el ys (m+1):=by rw[Nt,elS_same (by simp;omega)]
theorem swapL_b{ys:List (Int×Int)}{m:Nat}(h:m+1<ys.length):el (Nt ys m) (m+1)=el ys m:=by rw[Nt,Bo (by omega),elS_same h]
theorem Tj{ys:List (Int×Int)}{m q:Nat}(h1:q≠m)(h2:q≠m+1):el (Nt ys m) q=el ys q:=by rw[Nt,Bo h1,Bo h2]
theorem swapL_perm{ys:List (Int×Int)}{m:Nat}(h:m+1<ys.length):(Nt ys m).Perm ys:=by
 obtain⟨A,p,q,R,hA,rfl⟩:∃A p q R,A.length=m∧ys=A++p::q::R:=by
  refine⟨ys.take m,ys[m],ys[m+1],ys.drop (m+2),by simp;omega,?_⟩;rw[←List.drop_eq_getElem_cons h,←List.drop_eq_getElem_cons (by omega:m<ys.length),List.take_append_drop]
 subst hA;have e1:el (A++p::q::R) A.length=p:=by simp[el]
 have e2:el (A++p::q::R) (A.length+1)=q:=by simp[el]
 rw[Nt,e1,e2];have:((A++p::q::R).set (A.length+1) p).set A.length q=A++q::p::R:=by
  rw[List.set_append_right _ _ (by omega),List.set_append_right _ _ (by omega)];simp
 rw[this];exact List.Perm.append_left A (List.Perm.swap _ _ _)
def Cu(ys:List (Int×Int))(i:Nat):Prop:=∀a b,a<b→b<i→ltE (el ys b) (el ys a)=false
def Hq(ys:List (Int×Int))(i j:Nat):Prop:=(∀a b,a<b→b≤i→a≠j→b≠j→ltE (el ys b) (el ys a)=false)∧∀b,j<b→b≤i→ltE (el ys b) (el ys j)=false
theorem sort_start{ys:List (Int×Int)}{i:Nat}(h:Cu ys i):Hq ys i i:=⟨fun a b h1 h2 _ h4=>h a b h1 (by omega),fun b h1 h2=>by omega⟩
theorem sort_stop0{ys:List (Int×Int)}{i:Nat}(h:Hq ys i 0):Cu ys (i+1):=fun a b h1 h2=>by
 by_cases e:a=0
 ·subst e;exact h.2 b h1 (by omega)
 ·exact h.1 a b h1 (by omega) e (by omega)
theorem sort_stop{ys:List (Int×Int)}{i m:Nat}(h:Hq ys i (m+1))(hm:m+1≤i)(hle:ltE (el ys (m+1)) (el ys m)=false):Cu ys (i+1):=fun a b h1 h2=>by
 by_cases eb:b=m+1
 ·subst eb
  by_cases ea:a=m
  ·subst ea;exact hle
  ·exact ltE_trans (h.1 a m (by omega) (by omega) (by omega) (by omega)) hle
 ·by_cases ea:a=m+1
  ·subst ea;exact h.2 b h1 (by omega)
  ·exact h.1 a b h1 (by omega) ea eb
theorem sort_swap{ys:List (Int×Int)}{i m:Nat}(h:Hq ys i (m+1))(hm:m+1≤i)(hi:i<ys.length)(hlt:ltE (el ys (m+1)) (el ys m)=true):Hq (Nt ys m) i m:=by
 have hb:=swapL_b (ys:=ys) (m:=m) (by omega);refine⟨fun a b h1 h2 h3 h4=>?_,fun b h1 h2=>?_⟩
 ·by_cases eb:b=m+1
  ·subst eb;rw[hb,Tj h3 (by omega)];exact h.1 a m (by omega) (by omega) (by omega) (by omega)
  ·rw[Tj h4 eb]
   by_cases ea:a=m+1
   ·subst ea;rw[hb];exact h.1 m b (by omega) h2 (by omega) eb
   ·rw[Tj h3 ea];exact h.1 a b h1 h2 ea eb
 ·rw[swapL_a (by omega)]
  by_cases eb:b=m+1
  ·subst eb;rw[hb];exact ltE_le hlt
  ·rw[Tj (by omega) eb];exact h.2 b (by omega) h2
theorem sorted_all{l zs:List (Int×Int)}(hp:l.Perm zs)(hs:Cu l l.length):l=Yz zs:=by
 refine Tx _ _ (hp.trans (List.mergeSort_perm zs _).symm) ?_ (Tw zs);rw[List.pairwise_iff_getElem];intro i j hi hj hij;have h1:=hs i j hij hj
 rwa [Km hi,Km hj]at h1
theorem kE_flat_swap{ys:List (Int×Int)}{m:Nat}(hm:m+1<ys.length) :
  (((((kE.flat ys).set ((m+1)*2) (.int .i64 (el ys m).1)).set ((m+1)*2+1) (.int .i64 (el ys m).2)).set (m*2) (.int .i64 (el ys (m+1)).1)).set (m*2+1) (.int .i64 (el ys (m+1)).2))=kE.flat (Nt ys m):=by
 have hfl:(kE.flat ys).length=ys.length*2:=kE.flat_len ys;refine kE.flat_of _ _ (by simp only[List.length_set,Pl];exact hfl) fun j hj i hi=>?_
 have hi':i<2:=hi;rw[Pl]at hj;have hsz:kE.sz=2:=rfl;have ha:=kE.flat_at ys j hj i hi;rw[hsz]at ha ⊢
 rcases(show i=0∨i=1 from by omega)with rfl|rfl
 ·rw[show j*2+0=j*2 from rfl]at ha ⊢
  by_cases e1:j=m
  ·subst e1;rw[List.getElem?_set_ne (by omega),List.getElem?_set_self (by simp[hfl];omega),swapL_a hm];rfl
  ·by_cases e2:j=m+1
   ·subst e2;rw[List.getElem?_set_ne (by omega),List.getElem?_set_ne (by omega),List.getElem?_set_ne (by omega),List.getElem?_set_self (by simp[hfl];omega),swapL_b hm];rfl
   ·rw[List.getElem?_set_ne (by omega),List.getElem?_set_ne (by omega),List.getElem?_set_ne (by omega),List.getElem?_set_ne (by omega),Tj e1 e2];exact ha
 ·by_cases e1:j=m
  ·subst e1;rw[List.getElem?_set_self (by simp[hfl];omega),swapL_a hm];rfl
  ·by_cases e2:j=m+1
   ·subst e2;rw[List.getElem?_set_ne (by omega),List.getElem?_set_ne (by omega),List.getElem?_set_self (by simp[hfl];omega),swapL_b hm];rfl
   ·rw[List.getElem?_set_ne (by omega),List.getElem?_set_ne (by omega),List.getElem?_set_ne (by omega),List.getElem?_set_ne (by omega),Tj e1 e2];exact ha
theorem kE_stored{lo hi:Nat}{W:World}{g c:Nat}{ys:List (Int×Int)}(h:kE.Fresh lo hi W (some ⟨g,0,none⟩) c ys){m:Nat}(hm:m+1<ys.length) :
  kE.Fresh lo hi ((((W.setCell ⟨g,(m+1)*2,none⟩ (.int .i64 (el ys m).1)).setCell ⟨g,(m+1)*2+1,none⟩ (.int .i64 (el ys m).2)).setCell ⟨g,m*2,none⟩ (.int .i64 (el ys (m+1)).1)).setCell ⟨g,m*2+1,none⟩ (.int .i64 (el ys (m+1)).2)) (some ⟨g,0,none⟩) c (Nt ys m):=by
 obtain⟨g2,e2,hg1,hg2,hg3,ho⟩:=h.at (show 0<ys.length by omega)
 simp at e2;subst e2
 have hs:=((((World.ownsRow.stored ho ((m+1)*2) (.int .i64 (el ys m).1)).1.stored ((m+1)*2+1) (.int .i64 (el ys m).2)).1.stored (m*2) (.int .i64 (el ys (m+1)).1)).1.stored (m*2+1) (.int .i64 (el ys (m+1)).2)).1;refine .inr ⟨g,rfl,hg2,?_⟩;rw[kE_flat_swap hm]at hs;rw[Pl];exact hs
end Go.Proofs.YtdacedbfnlkghaaGreatDoor