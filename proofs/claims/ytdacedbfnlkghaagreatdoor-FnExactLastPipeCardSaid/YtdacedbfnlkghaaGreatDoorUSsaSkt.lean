/- A script of the specification in memory, and what its lines are, plainly. Marks of pipes. What a script has come tz stays where other rows are written. No conditions but those written. -/
import Derived.Test.YtdacedbfnlkghaaGreatDoorUSpiSfm
namespace Go.Proofs.YtdacedbfnlkghaaGreatDoor
set_option maxHeartbeats 4000000
open Go.RowKit Go.Proofs.Tryz
section
open Go.RowKit
theorem cmdO_only{x:ByteArray}{n k:Nat}(hk:k<11)(hx:x=Vj k)(hn:n≠Uh k):cmdO x n=none:=by
 refine Bu fun j hj h=>?_
 by_cases e:j=k
 ·subst e;exact hn h.2
 ·have h2:Vj k=Vj j:=by rw[←hx];exact h.1
  rcases Nat.lt_or_ge j k with h3|h3
  ·exact Rr k j hk h3 h2
  ·exact Rr j k hj (by omega) h2.symm
theorem cmdO_is{x:ByteArray}{n k:Nat}(hk:k<11)(hx:x=Vj k)(hn:n=Uh k):cmdO x n=some k:=by
 refine cmdO_hit hk ⟨hx,hn⟩ fun j hj h=>?_
 exact Rr k j hk hj (by rw[←hx];exact h.1)
theorem cmdR_no{ws:List ByteArray}(h:∀l,Jm (ws.drop 1)=some l→cmdO (el ws 0) l.length=none):Df ws=(0,[],false):=by
 unfold Df
 split
 ·rfl
 ·rename_i l e;rw[h l e]
theorem cmdR_word{ws:List ByteArray}(h:∀j,j<11→el ws 0≠Vj j):Df ws=(0,[],false) :=
 cmdR_no fun _ _=>Bu fun j hj hh=>h j hj hh.1
theorem cmdR_many{ws:List ByteArray}{k:Nat}(hk:k<11)(hx:el ws 0=Vj k)(hn:ws.length≠1+Uh k)(h0:0<ws.length):Df ws=(0,[],false) :=
 cmdR_no fun l e=>cmdO_only hk hx (by have:=Vd e;rw[List.length_drop]at this;omega)
theorem cmdR_nums{ws:List ByteArray}(h:Jm (ws.drop 1)=none):Df ws=(0,[],false) :=
 cmdR_no fun l e=>by rw[h]at e;cases e
theorem cmdR_yes{ws:List ByteArray}{k:Nat}{l:List Int}(hk:k<11)(hx:el ws 0=Vj k)(hn:ws.length=1+Uh k)(h:Jm (ws.drop 1)=some l):Df ws=((k:Int)+1,l,true):=by
 unfold Df
 rw[h];dsimp only;rw[cmdO_is hk hx (by have:=Vd h;rw[List.length_drop]at this;omega)]
theorem formR_is{k:Nat}(hk:k<11):formR (Vj k)=((Uh k:Int),if k<6 then(k:Int)+1 else 0,true):=formR_hit hk fun j hj=>Rr k j hk hj
structure QA(q:Nat)(W:World)(o:Option Addr)(c:Nat)(us:List LNode)(hi:Nat):Prop where
 box:Bx W q [.slice o us.length c,.pointer none,.bool false,.int .i64 0,.int .i64 0]
 gr:GR (q+1) hi W o c us
 fit:FitR us
 hi1:hi≤W.1.size
 hi0:q+1≤hi
structure QB(q:Nat)(W:World)(o:Option Addr)(c:Nat)(us:List LNode)(hi:Nat)(bad:Int):Prop where
 box:Bx W q [.slice o us.length c,.pointer none,.bool true,.int .i64 bad,.int .i64 0]
 gr:GR (q+1) hi W o c us
 fit:FitR us
 hi1:hi≤W.1.size
 hi0:q+1≤hi
structure QR(q:Nat)(W:World)(o:Option Addr)(c:Nat)(us:List LNode)(hi lo p bb:Nat)(xs:List Value)(ev fv uv:Value)(s:PP)(n:Nat):Prop where
 box:Bx W q [.slice o us.length c,.pointer (some ⟨p,0,none⟩),.bool true,.int .i64 0,.int .i64 (n:Int)]
 gr:GR (q+1) hi W o c us
 fit:FitR us
 hi1:hi≤lo
 hi0:q+1≤hi
 flow:FlowS lo W p bb (.slice o us.length c) xs ev fv uv s
 pipe:Kv (us.map Zz)=true
 sci:ScI (us.map Zz) n s
 few:n≤300
section
variable {q:Nat} {W W':World} {o:Option Addr} {c:Nat} {us:List LNode} {hi lo p bb:Nat} {xs:List Value} {ev fv uv:Value} {s s':PP} {n:Nat} {bad:Int}
theorem QA.later(h:QA q W o c us hi)(hb:Below W.1.size W W'):QA q W' o c us hi:=⟨h.box.later hb,h.gr.later hb,h.fit,Nat.le_trans h.hi1 hb.size,h.hi0⟩
theorem QB.later(h:QB q W o c us hi bad)(hb:Below W.1.size W W'):QB q W' o c us hi bad:=⟨h.box.later hb,h.gr.later hb,h.fit,Nat.le_trans h.hi1 hb.size,h.hi0⟩
theorem QR.later(h:QR q W o c us hi lo p bb xs ev fv uv s n)(hb:Below W.1.size W W'):QR q W' o c us hi lo p bb xs ev fv uv s n :=
 ⟨h.box.later hb,h.gr.later hb,h.fit,h.hi1,h.hi0,h.flow.later hb,h.pipe,h.sci,h.few⟩
theorem FlowS.geS(h:FlowS lo W p bb (.slice o us.length c) xs ev fv uv s){b:Nat}(hb:FO p bb xs ev fv uv b):lo≤b:=by
 rcases hb with rfl|rfl|⟨j,hj,hb⟩|hb|hb|hb
 ·exact h.lop
 ·exact h.lob
 ·have:=(Zj (h.hnd.row j (by rw[←h.hnd.len];exact hj)) hb).1;have:=h.lob
  omega
 ·exact(Zj h.emo hb).1
 ·exact(Zj h.fao hb).1
 ·exact(Zj h.fuo hb).1
theorem QR.good(h:QR q W o c us hi lo p bb xs ev fv uv s n):GoodE (us.map Zz)∧Ordd (us.map Zz) (Zv (us.map Zz))∧Ue (us.map Zz)≤400:=by
 have h00:Qa (us.map Zz)=0∧Ue (us.map Zz)≤400:=by have:=h.pipe;simpa[Kv]using this
 exact⟨Nk h00.1,Ka (Jw h00.1).2.2,h00.2⟩
theorem QR.qlo(h:QR q W o c us hi lo p bb xs ev fv uv s n):q<lo:=by have:=h.hi1;have:=h.hi0;omega
theorem QR.some(h:QR q W o c us hi lo p bb xs ev fv uv s n):∃gb goff,o=some ⟨gb,goff,none⟩∧0<us.length:=by
 have h00:Qa (us.map Zz)=0:=by have:=h.pipe;simp[Kv]at this;exact this.1
 have h1:0<us.length:=by have:=(Jw h00).1;rw[Zb]at this;omega
 obtain⟨b,off,e,_,_⟩:=Qw h.gr.in.1 h1;exact⟨b,off,e,h1⟩
theorem QR.put(h:QR q W o c us hi lo p bb xs ev fv uv s n){bb':Nat}{xs':List Value}{ev' fv' uv':Value}(F:FlowS lo W' p bb' (.slice o us.length c) xs' ev' fv' uv' s')(hlow:Below lo W W')(hI:ScI (us.map Zz) n s'):QR q W' o c us hi lo p bb' xs' ev' fv' uv' s' n :=
 ⟨h.box.below hlow h.qlo,h.gr.below hlow h.hi1,h.fit,h.hi1,h.hi0,F,h.pipe,hI,h.few⟩
theorem QR.step(h:QR q W o c us hi lo p bb xs ev fv uv s n)(hs:FStepS lo p (.slice o us.length c) (FO p bb xs ev fv uv) W W' s')(hI:ScI (us.map Zz) n s') :
  ∃bb' xs' ev' fv' uv',QR q W' o c us hi lo p bb' xs' ev' fv' uv' s' n∧Below q W W':=by
 obtain⟨O',⟨bb',xs',ev',fv',uv',F',hO'⟩,hsub,hlow,hkeep⟩:=hs;exact⟨bb',xs',ev',fv',uv',h.put F' hlow hI,hlow.mono (Nat.le_of_lt h.qlo)⟩
theorem QR.count(h:QR q W o c us hi lo p bb xs ev fv uv s n)(hn:n+1≤300):QR q (W.setCell ⟨q,4,none⟩ (.int .i64 ((n:Int)+1))) o c us hi lo p bb xs ev fv uv s (n+1):=by
 have hq:=h.qlo;have hnF:¬FO p bb xs ev fv uv q:=fun hF=>by have:=h.flow.geS hF;omega
 exact⟨h.box.set 4 _,h.gr.setOff (.inl (by dsimp only;omega)) _,h.fit,h.hi1,h.hi0,h.flow.setFar hnF _,h.pipe,h.sci.more,hn⟩
theorem FStepS.keptS{gv:Value}{O:Nat→Prop}(h:FStepS lo p gv O W W' s')(b:Nat)(hb:b<W.1.size)(hO:¬O b):W'.heap[b]? = W.heap[b]? := by
 obtain⟨O',_,_,_,hk⟩:=h;exact hk b hb hO
def Da(q:Nat)(W:World)(o:Option Addr)(c:Nat)(us:List LNode)(hi lo p:Nat)(t:ByteArray)(s':PP)(n':Nat)(e:Ending)(W':World):Prop :=
 e=.returned (.string t)∧∃bb xs ev fv uv,QR q W' o c us hi lo p bb xs ev fv uv s' n'∧Below q W W'
end
def ScQ(q:Nat)(W:World)(st:SS):Prop :=
 (st.bg=false∧∃o c us hi,QA q W o c us hi∧us.map Zz=st.gs)∨
 (st.bg=true∧st.bad≠0∧∃o c us hi,QB q W o c us hi st.bad∧us.map Zz=st.gs)∨
 (st.bg=true∧st.bad=0∧∃o c us hi lo p bb xs ev fv uv,QR q W o c us hi lo p bb xs ev fv uv st.s st.n∧us.map Zz=st.gs∧RgI st.s)
def AnsLq(q:Nat)(W:World)(st:SS)(line:ByteArray)(e:Ending)(W':World):Prop :=
 e=.returned (.string (Lc st line).2)∧ScQ q W' (Lc st line).1∧Below q W W'
theorem ScQ.later{q:Nat}{W W':World}{st:SS}(h:ScQ q W st)(hb:Below W.1.size W W'):ScQ q W' st:=by
 rcases h with⟨h0,o,c,us,hi,hQ,hg⟩|⟨h0,h1,o,c,us,hi,hQ,hg⟩|⟨h0,h1,o,c,us,hi,lo,p,bb,xs,ev,fv,uv,hQ,hg,hR⟩
 ·exact .inl ⟨h0,o,c,us,hi,hQ.later hb,hg⟩
 ·exact .inr (.inl ⟨h0,h1,o,c,us,hi,hQ.later hb,hg⟩)
 ·exact .inr (.inr ⟨h0,h1,o,c,us,hi,lo,p,bb,xs,ev,fv,uv,hQ.later hb,hg,hR⟩)
theorem ScQ.size{q:Nat}{W:World}{st:SS}(h:ScQ q W st):q<W.1.size:=by
 rcases h with⟨h0,o,c,us,hi,hQ,hg⟩|⟨h0,h1,o,c,us,hi,hQ,hg⟩|⟨h0,h1,o,c,us,hi,lo,p,bb,xs,ev,fv,uv,hQ,hg,hR⟩ <;> exact hQ.box.size
end
def KeptBut(T:TypeId)(w w':World):Prop:=∀(k:Nat)(cur:Array Value)(e:TypeId)(s:Nat×Nat),w.heap[k]? = some (.cells cur e s)→e≠T→w'.heap[k]? = w.heap[k]?
theorem KeptBut.refl(T:TypeId)(w:World):KeptBut T w w:=fun _ _ _ _ _ _=>rfl
theorem KeptBut.trans{T:TypeId}{a b c:World}(h:KeptBut T a b)(h2:KeptBut T b c):KeptBut T a c:=fun k cur e s hk hne=>by
 have h1:=h k cur e s hk hne;exact(h2 k cur e s (h1.trans hk) hne).trans h1
theorem Kind.Fresh.keptBut{α:Type}{K:Kind α}{lo hi:Nat}{W W':World}{tz:Option Addr}{tc:Nat}{xs:List α}(h:K.Fresh lo hi W tz tc xs)(hO:OnlyAt (eff tz xs.length) W W'):KeptBut K.ty W W':=fun k cur e s hk hne=>by
 refine hO.block k fun g eg=>?_
 rintro rfl
 rcases h with rfl|⟨g2,e2,_,ho⟩
 ·simp[eff]at eg
 ·unfold eff at eg
  split at eg
  ·cases eg
  ·rw[e2]at eg;simp at eg;subst eg
   obtain⟨cur2,h2⟩:=Rz ho;rw[hk]at h2;simp at h2;exact hne h2.2.1
theorem Kind.Fresh.keepT{α:Type}{K:Kind α}{lo hi:Nat}{W W':World}{tz:Option Addr}{tc:Nat}{xs:List α}{T:TypeId}(h:K.Fresh lo hi W tz tc xs)(hk:KeptBut T W W')(hne:K.ty≠T):K.Fresh lo hi W' tz tc xs:=by
 rcases h with h|⟨g,e,hg,ho⟩
 ·exact .inl h
 ·obtain⟨cur,hc⟩:=Rz ho;exact .inr ⟨g,e,hg,Ji ho (hk g cur _ _ hc hne)⟩
theorem FrRT.keepT{lo hi:Nat}{W W':World}{ao:Option Addr}{c:Nat}{hs:List (Option Addr×Nat×Nat)}{ls:List (List (Int×Int×Int))}{T:TypeId}(h:FrRT lo hi W ao c hs ls)(hk:KeptBut T W W')(h1:kRT.ty≠T)(h2:kTk.ty≠T):FrRT lo hi W' ao c hs ls :=
 ⟨h.1.keepT hk h1,h.2.1,fun j hj=>⟨(h.2.2.1 j hj).1,(h.2.2.1 j hj).2.keepT hk h2⟩,h.2.2.2⟩
def Gv(k:Int)(n:Nat):List (Int×Int×Int):=(List.range n).map (fun i:Nat=>(k+3*(i:Int),k+3*(i:Int)+1,k+3*(i:Int)+2))
theorem Xs(k:Int)(n:Nat):(Gv k n).length=n:=by simp[Gv]
theorem markTk_at(k:Int)(n j:Nat)(h:j<n):el (Gv k n) j=(k+3*(j:Int),k+3*(j:Int)+1,k+3*(j:Int)+2):=by simp[Gv,el,h]
theorem Dp(lo hi:Nat)(tz:Option Addr)(tc:Nat)(ts:List (Int×Int×Int))(k0:Int)(w:World)(hl:ts.length≤2097152)(hk0:0≤k0)(hk1:k0≤16777216)(hF:kTk.Fresh lo hi w tz tc ts) :
  Calls prog 91 #[.slice tz ts.length tc,.int .i64 k0] w fun e w'=>e=.returned (.int .i64 (k0+3*ts.length))∧kTk.Fresh lo hi w' tz tc (Gv k0 ts.length)∧OnlyAt (eff tz ts.length) w w':=by
 rcases Nat.eq_zero_or_pos ts.length with h0|h0
 ·obtain rfl:ts=[]:=List.length_eq_zero_iff.1 h0;go_enter func91,ntmps91;go_wp2
  go_loop [1,5] (fun v i=>v=.int .i64 k0∧i=.int .i64 0) (fun _ _=>0)
  case atStart=>exact⟨rfl,rfl⟩
  case round =>
   obtain⟨rfl,rfl⟩:=hrel;go_wp2;go_ret;exact⟨by simp,.inl (by simp[Gv]),OnlyAt.refl _ _⟩
 ·rw[eff_pos h0];obtain⟨g,rfl,_,hg,_,ho⟩:=hF.at h0;have HO:Zi (w.ownsRow lo 163 3 (.slice (some ⟨g,0,none⟩) ts.length tc) ts.length (kTk.flat ts)):=ho;clear ho;go_enter func91,ntmps91;go_wp2
  go_loopw [1,5] (fun v i wr=>∃(k:Nat)(xs:List Value),k≤ts.length∧i=.int .i64 k∧v=.int .i64 (k0+3*k)∧Zi (wr.ownsRow lo 163 3 (.slice (some ⟨g,0,none⟩) ts.length tc) ts.length xs∧∀j:Nat,j<k→xs[j*3]? = some (.int .i64 (k0+3*j))∧xs[j*3+1]? = some (.int .i64 (k0+3*j+1))∧xs[j*3+2]? = some (.int .i64 (k0+3*j+2)))∧OnlyAt (some ⟨g,0,none⟩) w wr) (fun _ i _=>ts.length-(intOf i).toNat)
  case atStart=>exact⟨0,_,Nat.zero_le _,rfl,by simp,⟨HO.o,fun j hj=>by omega⟩,OnlyAt.refl _ _⟩
  case round =>
   obtain⟨k,xs,hk,rfl,rfl,ho,hnx⟩:=hrel
   by_cases hlt:k<ts.length
   ·have hxl:k*3+2<xs.length:=by rw[ho.o.1.1];omega
    have hst1:wr.cell? ⟨g,k*3,none⟩=some xs[k*3]:=(ho.o.1.cellAt (k*3) (by omega)).trans (by simp);have hfr1:wr.frozen? ⟨g,k*3,none⟩=false:=ho.o.1.frozenAt (k*3);have hst2:wr.cell? ⟨g,k*3+1,none⟩=some xs[k*3+1]:=(ho.o.1.cellAt (k*3+1) (by omega)).trans (by simp);have hfr2:wr.frozen? ⟨g,k*3+1,none⟩=false:=ho.o.1.frozenAt (k*3+1);have hst3:wr.cell? ⟨g,k*3+2,none⟩=some xs[k*3+2]:=(ho.o.1.cellAt (k*3+2) (by omega)).trans (by simp);have hfr3:wr.frozen? ⟨g,k*3+2,none⟩=false:=ho.o.1.frozenAt (k*3+2);go_wp2;go_roundw
    case rel=>exact⟨k+1,(((xs.set (k*3) (.int .i64 (k0+3*k))).set (k*3+1) (.int .i64 (k0+3*k+1))).set (k*3+2) (.int .i64 (k0+3*k+2))),by omega,by go_num,by go_num,⟨by
      have h:=(((World.ownsRow.stored ho.o.1 (k*3) (.int .i64 (k0+3*k))).1.stored (k*3+1) (.int .i64 (k0+3*k+1))).1.stored (k*3+2) (.int .i64 (k0+3*k+2))).1
      simpa[Int.add_assoc]using h,fun j hj=>by
     rcases Nat.lt_succ_iff_lt_or_eq.1 hj with h|rfl
     ·refine⟨?_,?_,?_⟩
      ·rw[Zn (by omega),Zn (by omega),Zn (by omega)];exact(ho.o.2 j h).1
      ·rw[Zn (by omega),Zn (by omega),Zn (by omega)];exact(ho.o.2 j h).2.1
      ·rw[Zn (by omega),Zn (by omega),Zn (by omega)];exact(ho.o.2 j h).2.2
     ·refine⟨?_,?_,?_⟩
      ·rw[Zn (by omega),Zn (by omega),Ni (by first|omega|(simp only[List.length_set];omega))]
      ·rw[Zn (by omega),Ni (by first|omega|(simp only[List.length_set];omega))]
      ·rw[Ni (by first|omega|(simp only[List.length_set];omega))]⟩,(((hnx.trans (OnlyAt.set g (k*3) _ _)).trans (OnlyAt.set g (k*3+1) _ _)).trans (OnlyAt.set g (k*3+2) _ _))⟩
    case measure=>simp[intOf];omega
   ·obtain rfl:k=ts.length:=by omega
    have hxs:xs=kTk.flat (Gv k0 ts.length):=by
     refine kTk.flat_of xs _ (by rw[Xs];exact ho.o.1.1) fun j hj i hi=>?_
     rw[Xs]at hj;rw[markTk_at _ _ _ hj];have hi':i<3:=hi
     rcases(show i=0∨i=1∨i=2 from by omega)with rfl|rfl|rfl
     ·exact(ho.o.2 j hj).1
     ·exact(ho.o.2 j hj).2.1
     ·exact(ho.o.2 j hj).2.2
    subst hxs;go_wp2;go_ret;refine⟨rfl,.inr ⟨g,rfl,hg,?_⟩,hnx⟩;rw[Xs];exact ho.o.1
theorem Fk(tz:Option Addr)(tc:Nat)(n:Nat)(k0:Int)(w:World)(hl:n≤2097152)(hk0:0≤k0)(hk1:k0≤16777216)(hF:kTk.In w.1.size w tz (Gv k0 n)) :
  Calls prog 92 #[.slice tz n tc,.int .i64 k0] w fun e w'=>e=.returned (.int .i64 (k0+3*n))∧w'=w:=by
 go_enter func92,ntmps92;go_wp2
 go_loop [1,5] (fun v i=>∃k:Nat,k≤n∧i=.int .i64 k∧v=.int .i64 (k0+3*k)) (fun _ i=>n-(intOf i).toNat)
 case atStart=>exact⟨0,Nat.zero_le _,rfl,by simp⟩
 case round =>
  obtain⟨k,hk,rfl,rfl⟩:=hrel
  by_cases hlt:k<n
  ·obtain⟨b,off,rfl,hb,hc⟩:=Ub hF (k:=k) (by rw[Xs];exact hlt);have hck:=hc k (by rw[Xs];exact hlt);rw[markTk_at _ _ _ hlt]at hck;obtain⟨hck1,hck2,hck3⟩:=hck;clear hc hF;have hne0_0:(k0+3*(k:Int) != k0+3*(k:Int))=false:=by simp <;> omega
   have hne1_0:(k0+3*(k:Int)+1 != k0+3*(k:Int)+1)=false:=by simp <;> omega
   have hne2_0:(k0+3*(k:Int)+2 != k0+3*(k:Int)+1+1)=false:=by simp <;> omega
   have hne2_1:(k0+3*(k:Int)+2 != k0+3*(k:Int)+2)=false:=by simp <;> omega
   dsimp only at hck1 hck2 hck3;go_wp2;go_round
   case rel=>exact⟨k+1,by omega,by go_num,by go_num⟩
   case measure=>simp[intOf];omega
  ·obtain rfl:k=n:=by omega
   go_wp2;go_ret;exact⟨rfl,rfl⟩
def Nn(k:Int)(n:Nat):List (Int×Int×Int):=(List.range n).map (fun i:Nat=>(k+3*(i:Int),k+3*(i:Int)+1,k+3*(i:Int)+2))
theorem Ya(k:Int)(n:Nat):(Nn k n).length=n:=by simp[Nn]
theorem markOu_at(k:Int)(n j:Nat)(h:j<n):el (Nn k n) j=(k+3*(j:Int),k+3*(j:Int)+1,k+3*(j:Int)+2):=by simp[Nn,el,h]
theorem markOutS_any(lo hi:Nat)(tz:Option Addr)(tc:Nat)(ts:List (Int×Int×Int))(k0:Int)(w:World)(hl:ts.length≤2097152)(hk0:0≤k0)(hk1:k0≤16777216)(hF:kOu.Fresh lo hi w tz tc ts) :
  Calls prog 54 #[.slice tz ts.length tc,.int .i64 k0] w fun e w'=>e=.returned (.int .i64 (k0+3*ts.length))∧kOu.Fresh lo hi w' tz tc (Nn k0 ts.length)∧OnlyAt (eff tz ts.length) w w':=by
 rcases Nat.eq_zero_or_pos ts.length with h0|h0
 ·obtain rfl:ts=[]:=List.length_eq_zero_iff.1 h0;go_enter func54,ntmps54;go_wp2
  go_loop [1,5] (fun v i=>v=.int .i64 k0∧i=.int .i64 0) (fun _ _=>0)
  case atStart=>exact⟨rfl,rfl⟩
  case round =>
   obtain⟨rfl,rfl⟩:=hrel;go_wp2;go_ret;exact⟨by simp,.inl (by simp[Nn]),OnlyAt.refl _ _⟩
 ·rw[eff_pos h0];obtain⟨g,rfl,_,hg,_,ho⟩:=hF.at h0;have HO:Zi (w.ownsRow lo 138 3 (.slice (some ⟨g,0,none⟩) ts.length tc) ts.length (kOu.flat ts)):=ho;clear ho;go_enter func54,ntmps54;go_wp2
  go_loopw [1,5] (fun v i wr=>∃(k:Nat)(xs:List Value),k≤ts.length∧i=.int .i64 k∧v=.int .i64 (k0+3*k)∧Zi (wr.ownsRow lo 138 3 (.slice (some ⟨g,0,none⟩) ts.length tc) ts.length xs∧∀j:Nat,j<k→xs[j*3]? = some (.int .i64 (k0+3*j))∧xs[j*3+1]? = some (.int .i64 (k0+3*j+1))∧xs[j*3+2]? = some (.int .i64 (k0+3*j+2)))∧OnlyAt (some ⟨g,0,none⟩) w wr) (fun _ i _=>ts.length-(intOf i).toNat)
  case atStart=>exact⟨0,_,Nat.zero_le _,rfl,by simp,⟨HO.o,fun j hj=>by omega⟩,OnlyAt.refl _ _⟩
  case round =>
   obtain⟨k,xs,hk,rfl,rfl,ho,hnx⟩:=hrel
   by_cases hlt:k<ts.length
   ·have hxl:k*3+2<xs.length:=by rw[ho.o.1.1];omega
    have hst1:wr.cell? ⟨g,k*3,none⟩=some xs[k*3]:=(ho.o.1.cellAt (k*3) (by omega)).trans (by simp);have hfr1:wr.frozen? ⟨g,k*3,none⟩=false:=ho.o.1.frozenAt (k*3);have hst2:wr.cell? ⟨g,k*3+1,none⟩=some xs[k*3+1]:=(ho.o.1.cellAt (k*3+1) (by omega)).trans (by simp);have hfr2:wr.frozen? ⟨g,k*3+1,none⟩=false:=ho.o.1.frozenAt (k*3+1);have hst3:wr.cell? ⟨g,k*3+2,none⟩=some xs[k*3+2]:=(ho.o.1.cellAt (k*3+2) (by omega)).trans (by simp);have hfr3:wr.frozen? ⟨g,k*3+2,none⟩=false:=ho.o.1.frozenAt (k*3+2);go_wp2;go_roundw
    case rel=>exact⟨k+1,(((xs.set (k*3) (.int .i64 (k0+3*k))).set (k*3+1) (.int .i64 (k0+3*k+1))).set (k*3+2) (.int .i64 (k0+3*k+2))),by omega,by go_num,by go_num,⟨by
      have h:=(((World.ownsRow.stored ho.o.1 (k*3) (.int .i64 (k0+3*k))).1.stored (k*3+1) (.int .i64 (k0+3*k+1))).1.stored (k*3+2) (.int .i64 (k0+3*k+2))).1
      simpa[Int.add_assoc]using h,fun j hj=>by
     rcases Nat.lt_succ_iff_lt_or_eq.1 hj with h|rfl
     ·refine⟨?_,?_,?_⟩
      ·rw[Zn (by omega),Zn (by omega),Zn (by omega)];exact(ho.o.2 j h).1
      ·rw[Zn (by omega),Zn (by omega),Zn (by omega)];exact(ho.o.2 j h).2.1
      ·rw[Zn (by omega),Zn (by omega),Zn (by omega)];exact(ho.o.2 j h).2.2
     ·refine⟨?_,?_,?_⟩
      ·rw[Zn (by omega),Zn (by omega),Ni (by first|omega|(simp only[List.length_set];omega))]
      ·rw[Zn (by omega),Ni (by first|omega|(simp only[List.length_set];omega))]
      ·rw[Ni (by first|omega|(simp only[List.length_set];omega))]⟩,(((hnx.trans (OnlyAt.set g (k*3) _ _)).trans (OnlyAt.set g (k*3+1) _ _)).trans (OnlyAt.set g (k*3+2) _ _))⟩
    case measure=>simp[intOf];omega
   ·obtain rfl:k=ts.length:=by omega
    have hxs:xs=kOu.flat (Nn k0 ts.length):=by
     refine kOu.flat_of xs _ (by rw[Ya];exact ho.o.1.1) fun j hj i hi=>?_
     rw[Ya]at hj;rw[markOu_at _ _ _ hj];have hi':i<3:=hi
     rcases(show i=0∨i=1∨i=2 from by omega)with rfl|rfl|rfl
     ·exact(ho.o.2 j hj).1
     ·exact(ho.o.2 j hj).2.1
     ·exact(ho.o.2 j hj).2.2
    subst hxs;go_wp2;go_ret;refine⟨rfl,.inr ⟨g,rfl,hg,?_⟩,hnx⟩;rw[Ya];exact ho.o.1
theorem heldOutS_any(tz:Option Addr)(tc:Nat)(n:Nat)(k0:Int)(w:World)(hl:n≤2097152)(hk0:0≤k0)(hk1:k0≤16777216)(hF:kOu.In w.1.size w tz (Nn k0 n)) :
  Calls prog 57 #[.slice tz n tc,.int .i64 k0] w fun e w'=>e=.returned (.int .i64 (k0+3*n))∧w'=w:=by
 go_enter func57,ntmps57;go_wp2
 go_loop [1,5] (fun v i=>∃k:Nat,k≤n∧i=.int .i64 k∧v=.int .i64 (k0+3*k)) (fun _ i=>n-(intOf i).toNat)
 case atStart=>exact⟨0,Nat.zero_le _,rfl,by simp⟩
 case round =>
  obtain⟨k,hk,rfl,rfl⟩:=hrel
  by_cases hlt:k<n
  ·obtain⟨b,off,rfl,hb,hc⟩:=kOu_at hF (k:=k) (by rw[Ya];exact hlt);have hck:=hc k (by rw[Ya];exact hlt);rw[markOu_at _ _ _ hlt]at hck;obtain⟨hck1,hck2,hck3⟩:=hck;clear hc hF;have hne0_0:(k0+3*(k:Int) != k0+3*(k:Int))=false:=by simp <;> omega
   have hne1_0:(k0+3*(k:Int)+1 != k0+3*(k:Int)+1)=false:=by simp <;> omega
   have hne2_0:(k0+3*(k:Int)+2 != k0+3*(k:Int)+1+1)=false:=by simp <;> omega
   have hne2_1:(k0+3*(k:Int)+2 != k0+3*(k:Int)+2)=false:=by simp <;> omega
   dsimp only at hck1 hck2 hck3;go_wp2;go_round
   case rel=>exact⟨k+1,by omega,by go_num,by go_num⟩
   case measure=>simp[intOf];omega
  ·obtain rfl:k=n:=by omega
   go_wp2;go_ret;exact⟨rfl,rfl⟩
def Np(k:Int)(n:Nat):List (Int×Int×Int×Int):=(List.range n).map (fun i:Nat=>(k+4*(i:Int),k+4*(i:Int)+1,k+4*(i:Int)+2,k+4*(i:Int)+3))
theorem Yb(k:Int)(n:Nat):(Np k n).length=n:=by simp[Np]
theorem markLo_at(k:Int)(n j:Nat)(h:j<n):el (Np k n) j=(k+4*(j:Int),k+4*(j:Int)+1,k+4*(j:Int)+2,k+4*(j:Int)+3):=by simp[Np,el,h]
theorem markLostS_any(lo hi:Nat)(tz:Option Addr)(tc:Nat)(ts:List (Int×Int×Int×Int))(k0:Int)(w:World)(hl:ts.length≤2097152)(hk0:0≤k0)(hk1:k0≤16777216)(hF:kLo.Fresh lo hi w tz tc ts) :
  Calls prog 55 #[.slice tz ts.length tc,.int .i64 k0] w fun e w'=>e=.returned (.int .i64 (k0+4*ts.length))∧kLo.Fresh lo hi w' tz tc (Np k0 ts.length)∧OnlyAt (eff tz ts.length) w w':=by
 rcases Nat.eq_zero_or_pos ts.length with h0|h0
 ·obtain rfl:ts=[]:=List.length_eq_zero_iff.1 h0;go_enter func55,ntmps55;go_wp2
  go_loop [1,5] (fun v i=>v=.int .i64 k0∧i=.int .i64 0) (fun _ _=>0)
  case atStart=>exact⟨rfl,rfl⟩
  case round =>
   obtain⟨rfl,rfl⟩:=hrel;go_wp2;go_ret;exact⟨by simp,.inl (by simp[Np]),OnlyAt.refl _ _⟩
 ·rw[eff_pos h0];obtain⟨g,rfl,_,hg,_,ho⟩:=hF.at h0;have HO:Zi (w.ownsRow lo 141 4 (.slice (some ⟨g,0,none⟩) ts.length tc) ts.length (kLo.flat ts)):=ho;clear ho;go_enter func55,ntmps55;go_wp2
  go_loopw [1,5] (fun v i wr=>∃(k:Nat)(xs:List Value),k≤ts.length∧i=.int .i64 k∧v=.int .i64 (k0+4*k)∧Zi (wr.ownsRow lo 141 4 (.slice (some ⟨g,0,none⟩) ts.length tc) ts.length xs∧∀j:Nat,j<k→xs[j*4]? = some (.int .i64 (k0+4*j))∧xs[j*4+1]? = some (.int .i64 (k0+4*j+1))∧xs[j*4+2]? = some (.int .i64 (k0+4*j+2))∧xs[j*4+3]? = some (.int .i64 (k0+4*j+3)))∧OnlyAt (some ⟨g,0,none⟩) w wr) (fun _ i _=>ts.length-(intOf i).toNat)
  case atStart=>exact⟨0,_,Nat.zero_le _,rfl,by simp,⟨HO.o,fun j hj=>by omega⟩,OnlyAt.refl _ _⟩
  case round =>
   obtain⟨k,xs,hk,rfl,rfl,ho,hnx⟩:=hrel
   by_cases hlt:k<ts.length
   ·have hxl:k*4+3<xs.length:=by rw[ho.o.1.1];omega
    have hst1:wr.cell? ⟨g,k*4,none⟩=some xs[k*4]:=(ho.o.1.cellAt (k*4) (by omega)).trans (by simp);have hfr1:wr.frozen? ⟨g,k*4,none⟩=false:=ho.o.1.frozenAt (k*4);have hst2:wr.cell? ⟨g,k*4+1,none⟩=some xs[k*4+1]:=(ho.o.1.cellAt (k*4+1) (by omega)).trans (by simp);have hfr2:wr.frozen? ⟨g,k*4+1,none⟩=false:=ho.o.1.frozenAt (k*4+1);have hst3:wr.cell? ⟨g,k*4+2,none⟩=some xs[k*4+2]:=(ho.o.1.cellAt (k*4+2) (by omega)).trans (by simp);have hfr3:wr.frozen? ⟨g,k*4+2,none⟩=false:=ho.o.1.frozenAt (k*4+2);have hst4:wr.cell? ⟨g,k*4+3,none⟩=some xs[k*4+3]:=(ho.o.1.cellAt (k*4+3) (by omega)).trans (by simp);have hfr4:wr.frozen? ⟨g,k*4+3,none⟩=false:=ho.o.1.frozenAt (k*4+3);go_wp2;go_roundw
    case rel=>exact⟨k+1,((((xs.set (k*4) (.int .i64 (k0+4*k))).set (k*4+1) (.int .i64 (k0+4*k+1))).set (k*4+2) (.int .i64 (k0+4*k+2))).set (k*4+3) (.int .i64 (k0+4*k+3))),by omega,by go_num,by go_num,⟨by
      have h:=((((World.ownsRow.stored ho.o.1 (k*4) (.int .i64 (k0+4*k))).1.stored (k*4+1) (.int .i64 (k0+4*k+1))).1.stored (k*4+2) (.int .i64 (k0+4*k+2))).1.stored (k*4+3) (.int .i64 (k0+4*k+3))).1
      simpa[Int.add_assoc]using h,fun j hj=>by
     rcases Nat.lt_succ_iff_lt_or_eq.1 hj with h|rfl
     ·refine⟨?_,?_,?_,?_⟩
      ·rw[Zn (by omega),Zn (by omega),Zn (by omega),Zn (by omega)];exact(ho.o.2 j h).1
      ·rw[Zn (by omega),Zn (by omega),Zn (by omega),Zn (by omega)];exact(ho.o.2 j h).2.1
      ·rw[Zn (by omega),Zn (by omega),Zn (by omega),Zn (by omega)];exact(ho.o.2 j h).2.2.1
      ·rw[Zn (by omega),Zn (by omega),Zn (by omega),Zn (by omega)];exact(ho.o.2 j h).2.2.2
     ·refine⟨?_,?_,?_,?_⟩
      ·rw[Zn (by omega),Zn (by omega),Zn (by omega),Ni (by first|omega|(simp only[List.length_set];omega))]
      ·rw[Zn (by omega),Zn (by omega),Ni (by first|omega|(simp only[List.length_set];omega))]
      ·rw[Zn (by omega),Ni (by first|omega|(simp only[List.length_set];omega))]
      ·rw[Ni (by first|omega|(simp only[List.length_set];omega))]⟩,((((hnx.trans (OnlyAt.set g (k*4) _ _)).trans (OnlyAt.set g (k*4+1) _ _)).trans (OnlyAt.set g (k*4+2) _ _)).trans (OnlyAt.set g (k*4+3) _ _))⟩
    case measure=>simp[intOf];omega
   ·obtain rfl:k=ts.length:=by omega
    have hxs:xs=kLo.flat (Np k0 ts.length):=by
     refine kLo.flat_of xs _ (by rw[Yb];exact ho.o.1.1) fun j hj i hi=>?_
     rw[Yb]at hj;rw[markLo_at _ _ _ hj];have hi':i<4:=hi
     rcases(show i=0∨i=1∨i=2∨i=3 from by omega)with rfl|rfl|rfl|rfl
     ·exact(ho.o.2 j hj).1
     ·exact(ho.o.2 j hj).2.1
     ·exact(ho.o.2 j hj).2.2.1
     ·exact(ho.o.2 j hj).2.2.2
    subst hxs;go_wp2;go_ret;refine⟨rfl,.inr ⟨g,rfl,hg,?_⟩,hnx⟩;rw[Yb];exact ho.o.1
theorem heldLostS_any(tz:Option Addr)(tc:Nat)(n:Nat)(k0:Int)(w:World)(hl:n≤2097152)(hk0:0≤k0)(hk1:k0≤16777216)(hF:kLo.In w.1.size w tz (Np k0 n)) :
  Calls prog 58 #[.slice tz n tc,.int .i64 k0] w fun e w'=>e=.returned (.int .i64 (k0+4*n))∧w'=w:=by
 go_enter func58,ntmps58;go_wp2
 go_loop [1,5] (fun v i=>∃k:Nat,k≤n∧i=.int .i64 k∧v=.int .i64 (k0+4*k)) (fun _ i=>n-(intOf i).toNat)
 case atStart=>exact⟨0,Nat.zero_le _,rfl,by simp⟩
 case round =>
  obtain⟨k,hk,rfl,rfl⟩:=hrel
  by_cases hlt:k<n
  ·obtain⟨b,off,rfl,hb,hc⟩:=kLo_at hF (k:=k) (by rw[Yb];exact hlt);have hck:=hc k (by rw[Yb];exact hlt);rw[markLo_at _ _ _ hlt]at hck;obtain⟨hck1,hck2,hck3,hck4⟩:=hck;clear hc hF;have hne0_0:(k0+4*(k:Int) != k0+4*(k:Int))=false:=by simp <;> omega
   have hne1_0:(k0+4*(k:Int)+1 != k0+4*(k:Int)+1)=false:=by simp <;> omega
   have hne2_0:(k0+4*(k:Int)+2 != k0+4*(k:Int)+1+1)=false:=by simp <;> omega
   have hne2_1:(k0+4*(k:Int)+2 != k0+4*(k:Int)+2)=false:=by simp <;> omega
   have hne3_0:(k0+4*(k:Int)+3 != k0+4*(k:Int)+1+1+1)=false:=by simp <;> omega
   have hne3_1:(k0+4*(k:Int)+3 != k0+4*(k:Int)+3)=false:=by simp <;> omega
   dsimp only at hck1 hck2 hck3 hck4;go_wp2;go_round
   case rel=>exact⟨k+1,by omega,by go_num,by go_num⟩
   case measure=>simp[intOf];omega
  ·obtain rfl:k=n:=by omega
   go_wp2;go_ret;exact⟨rfl,rfl⟩
def Ua(k:Int)(ls:List (List (Int×Int×Int))):List (List (Int×Int×Int)):=(List.range ls.length).map fun j:Nat=>Gv (k+3*(Zs (ls.take j):Int)) (el ls j).length
theorem Vt(k:Int)(ls:List (List (Int×Int×Int))):(Ua k ls).length=ls.length:=by simp[Ua]
theorem markRT_at(k:Int){ls:List (List (Int×Int×Int))}{j:Nat}(h:j<ls.length):el (Ua k ls) j=Gv (k+3*(Zs (ls.take j):Int)) (el ls j).length:=by simp[Ua,el,h]
def Yj(k:Int)(ls:List (List (Int×Int×Int)))(m:Nat):List (List (Int×Int×Int)):=(Ua k ls).take m++ls.drop m
theorem Ty(k:Int)(ls:List (List (Int×Int×Int))){m:Nat}(h:m≤ls.length):(Yj k ls m).length=ls.length:=by simp[Yj,Vt];omega
theorem partRT_zero(k:Int)(ls:List (List (Int×Int×Int))):Yj k ls 0=ls:=by simp[Yj]
theorem partRT_all(k:Int)(ls:List (List (Int×Int×Int))):Yj k ls ls.length=Ua k ls:=by
 simp only[Yj,List.drop_length,List.append_nil];rw[←Vt k ls,List.take_length]
theorem partRT_at(k:Int){ls:List (List (Int×Int×Int))}{m:Nat}(h:m<ls.length):el (Yj k ls m) m=el ls m:=by
 have:(List.take m (Ua k ls)).length=m:=by simp[Vt];omega
 simp only[el,Yj];rw[List.getElem?_append_right (by omega),this]
 simp
theorem partRT_set(k:Int){ls:List (List (Int×Int×Int))}{m:Nat}(h:m<ls.length):(Yj k ls m).set m (Gv (k+3*(Zs (ls.take m):Int)) (el ls m).length)=Yj k ls (m+1):=by
 have hl:(List.take m (Ua k ls)).length=m:=by simp[Vt];omega
 simp only[Yj];rw[List.set_append_right _ _ (by omega),hl,Nat.sub_self];have hd:ls.drop m=el ls m::ls.drop (m+1):=by rw[Km h];exact List.drop_eq_getElem_cons h
 rw[hd,List.set_cons_zero,Zy (by rw[Vt];exact h),markRT_at k h]
 simp
theorem Ma(lo hi:Nat)(ao:Option Addr)(cap:Nat)(hs:List (Option Addr×Nat×Nat))(ls:List (List (Int×Int×Int)))(k0:Int)(w:World)(hl:ls.length≤1048576)(hle:Zs ls≤1048576)(hk0:0≤k0)(hk1:k0≤8388608)(hF:FrRT lo hi w ao cap hs ls) :
  Calls prog 53 #[.slice ao ls.length cap,.int .i64 k0] w fun e w'=>e=.returned (.int .i64 (k0+3*(Zs ls:Int)))∧FrRT lo hi w' ao cap hs (Ua k0 ls)∧Between lo hi w w'∧KeptBut kTk.ty w w':=by
 have HF:=Zd hF;clear hF;go_enter func53,ntmps53;go_wp2
 go_loopw [1,5] (fun v i wr=>∃(k:Nat),k≤ls.length∧i=.int .i64 k∧v=.int .i64 (k0+3*(Zs (ls.take k):Int))∧Zi (FrRT lo hi wr ao cap hs (Yj k0 ls k))∧Zi (Between lo hi w wr∧KeptBut kTk.ty w wr)) (fun _ i _=>ls.length-(intOf i).toNat)
 case atStart=>exact⟨0,Nat.zero_le _,rfl,by simp[Zs],by rw[partRT_zero];exact HF,Between.refl _ _ _,KeptBut.refl _ _⟩
 case round =>
  obtain⟨k,hk,rfl,rfl,hR,hB⟩:=hrel
  by_cases hlt:k<ls.length
  ·obtain⟨b,off,o,c,rfl,hb,hc,hek,_⟩:=hR.o.in.at (k:=k) (by rw[Ty k0 ls hk];exact hlt);have hfk:=(hR.o.2.2.1 k (by rw[Ty k0 ls hk];exact hlt)).2;rw[partRT_at k0 hlt]at hc hek hfk;rw[hek]at hfk;dsimp only at hfk;have ht:=Ws hlt;have htl:=Kl hlt;have HS:=Zd (partRT_set k0 hlt);have HE:=Zd hek;have HP:=Zd (partRT_at k0 hlt)
   generalize hx:el ls k=x at hc hfk ht htl HS HE HP
   have HK:=Zd hfk;clear hx hek hfk;go_wp2_with fail;refine(Dp lo hi o c x (k0+3*(Zs (ls.take k):Int)) wr (by omega) (by omega) (by omega) HK.o).mono ?_;rintro e w1 ⟨rfl,hF1,hO1⟩;have hB1:=Zd (And.intro (hB.o.1.trans (HK.o.between hO1)) (hB.o.2.trans (HK.o.keptBut hO1)));have hR1:Zi (FrRT lo hi w1 (some ⟨b,off,none⟩) cap hs (Yj k0 ls (k+1))):=by
    rw[Zi,←HS.o];refine hR.o.set (by rw[Ty k0 ls hk];exact hlt) (by rw[Xs,HP.o]) ?_ ?_
    ·rw[HE.o];exact hF1
    ·rw[HE.o,HP.o];exact hO1
   clear hF1 hO1 hR hB HK HS HE HP;go_wp2;go_roundw
   case rel=>exact⟨k+1,by omega,by go_num,by rw[ht];push_cast;congr 1;omega,hR1,hB1⟩
   case measure=>simp[intOf];omega
  ·obtain rfl:k=ls.length:=by omega
   rw[partRT_all]at hR;rw[List.take_length];go_wp2;go_ret;exact⟨rfl,hR.o,hB.o.1,hB.o.2⟩
theorem Bw(ao:Option Addr)(cap:Nat)(hs:List (Option Addr×Nat×Nat))(ls:List (List (Int×Int×Int)))(k0:Int)(w:World)(hl:ls.length≤1048576)(hle:Zs ls≤1048576)(hk0:0≤k0)(hk1:k0≤8388608)(hF:InRT w.1.size w ao hs (Ua k0 ls)) :
  Calls prog 56 #[.slice ao ls.length cap,.int .i64 k0] w fun e w'=>e=.returned (.int .i64 (k0+3*(Zs ls:Int)))∧w'=w:=by
 go_enter func56,ntmps56;go_wp2
 go_loop [1,5] (fun v i=>∃k:Nat,k≤ls.length∧i=.int .i64 k∧v=.int .i64 (k0+3*(Zs (ls.take k):Int))) (fun _ i=>ls.length-(intOf i).toNat)
 case atStart=>exact⟨0,Nat.zero_le _,rfl,by simp[Zs]⟩
 case round =>
  obtain⟨k,hk,rfl,rfl⟩:=hrel
  by_cases hlt:k<ls.length
  ·obtain⟨b,off,o,c,rfl,hb,hc,_,hI⟩:=hF.at (k:=k) (by rw[Vt];exact hlt);rw[markRT_at k0 hlt]at hc hI;rw[Xs]at hc;have ht:=Ws hlt;have htl:=Kl hlt
   generalize hx:(el ls k).length=x at hc hI ht htl
   have HI:=Zd hI;clear hx hI;have hn0:decide (k0+3*(Zs (ls.take k):Int)+3*(x:Int)<0)=false:=by simp;omega
   go_wp2_with fail;refine(Fk o c x (k0+3*(Zs (ls.take k):Int)) w (by omega) (by omega) (by omega) HI.o).mono ?_;rintro e w1 ⟨rfl,hw1⟩;rw[hw1];clear hw1 w1
   go_wp2;go_round
   case rel=>exact⟨k+1,by omega,by go_num,by rw[ht];push_cast;congr 1;omega⟩
   case measure=>simp[intOf];omega
  ·obtain rfl:k=ls.length:=by omega
   rw[List.take_length];go_wp2;go_ret;exact⟨rfl,rfl⟩
def mkEm(k:Int)(bx:List (List (Int×Int×Int))):Int:=k+3*(Zs bx:Int)
def mkFa(k:Int)(bx:List (List (Int×Int×Int)))(em:List (Int×Int×Int)):Int:=mkEm k bx+3*(em.length:Int)
def mkFu(k:Int)(bx:List (List (Int×Int×Int)))(em:List (Int×Int×Int))(fa:List (Int×Int×Int×Int)):Int:=mkFa k bx em+4*(fa.length:Int)
def Dn(k:Int)(bx:List (List (Int×Int×Int)))(em:List (Int×Int×Int))(fa:List (Int×Int×Int×Int))(fu:List Int):Int:=mkFu k bx em fa+(fu.length:Int)
theorem markPipe_any(lo hi:Nat)(ti it:Int)(cl:Bool)(bo:Option Addr)(bc:Nat)(bx:List (List (Int×Int×Int)))(eo:Option Addr)(ec:Nat)(em:List (Int×Int×Int))(fo:Option Addr)(fc:Nat)(fa:List (Int×Int×Int×Int))(uo:Option Addr)(uc:Nat)(fu:List Int)(co:Option Addr)(cc:Nat)(cs:List Int)(k:Int)(w:World)(hb:bx.length≤1048576∧Zs bx≤1048576)(he:em.length≤1048576)(hf:fa.length≤1048576)(hu:fu.length≤1048576)(hk0:0≤k)(hk1:k≤1000)(hhi:hi≤w.1.size)(hF:FrPipe lo hi w bo bc bx eo ec em fo fc fa uo uc fu)(hC:kI.Fresh lo hi w co cc cs)(hOff:Off uo fu.length co cs.length) :
  Calls prog 24 #[.agg #[.int .i64 ti,.int .i64 it,.bool cl,.slice bo bx.length bc,.slice eo em.length ec,.slice fo fa.length fc,.slice uo fu.length uc],.int .i64 k] w fun e w'=>e=.returned (.int .i64 (Dn k bx em fa fu))∧FrPipe lo hi w' bo bc (Ua k bx) eo ec (Nn (mkEm k bx) em.length) fo fc (Np (mkFa k bx em) fa.length) uo uc (Dr (mkFu k bx em fa) fu.length)∧kI.Fresh lo hi w' co cc cs∧(∃w0,Below w.1.size w w0∧Between lo hi w0 w'):=by
 have b1:=hb.1;have b2:=hb.2;obtain⟨⟨hs,hB⟩,hE,hL,hU⟩:=hF;have hb0:=Zk w (.cells #[.int .i64 ti,.int .i64 it,.bool cl,.slice bo bx.length bc,.slice eo em.length ec,.slice fo fa.length fc,.slice uo fu.length uc] 48);obtain⟨W0,hW0⟩:=nmd (w.alloc (.cells #[.int .i64 ti,.int .i64 it,.bool cl,.slice bo bx.length bc,.slice eo em.length ec,.slice fo fa.length fc,.slice uo fu.length uc] 48));have HW0:=Zd hW0;have X0:Bx W0 w.1.size [.int .i64 ti,.int .i64 it,.bool cl,.slice bo bx.length bc,.slice eo em.length ec,.slice fo fa.length fc,.slice uo fu.length uc]:=by rw[hW0];exact Bx.new (w:=w) [.int .i64 ti,.int .i64 it,.bool cl,.slice bo bx.length bc,.slice eo em.length ec,.slice fo fa.length fc,.slice uo fu.length uc] 48 rfl
 have hq:w.1.size<lo∨hi≤w.1.size:=.inr hhi;rw[←hW0]at hb0;have HB:=Zd (hB.later hb0);have HE:=Zd (hE.later hb0);have HL:=Zd (hL.later hb0);have HU:=Zd (hU.later hb0);have HC:=Zd (hC.later hb0);have Hb0:=Zd hb0;have x3:=X0.c 3 rfl;have x4:=X0.c 4 rfl;have x5:=X0.c 5 rfl;have x6:=X0.c 6 rfl;have hx:=X0.size;have E1:mkEm k bx=k+3*(Zs bx:Int):=rfl;have E2:mkFa k bx em=mkEm k bx+3*(em.length:Int):=rfl;have E3:mkFu k bx em fa=mkFa k bx em+4*(fa.length:Int):=rfl;have E4:Dn k bx em fa fu=mkFu k bx em fa+(fu.length:Int):=rfl
 generalize mkEm k bx=k1 at E1 E2 ⊢
 generalize mkFa k bx em=k2 at E2 E3 ⊢
 generalize mkFu k bx em fa=k3 at E3 E4 ⊢
 generalize Dn k bx em fa fu=k4 at E4 ⊢
 have q1:0≤k1∧k1≤3200000:=by omega
 have q2:0≤k2∧k2≤6400000:=by omega
 have q3:0≤k3∧k3≤12000000:=by omega
 have G1:=Zd E1;have G2:=Zd E2;have G3:=Zd E3;have G4:=Zd E4;clear hW0 hb0 hB hE hL hU hC X0 E1 E2 E3 E4;go_enter func24,ntmps24;go_wp2_with fail;rw[←HW0.o];refine(Ma lo hi bo bc hs bx k W0 b1 b2 hk0 (by omega) HB.o).mono ?_;rintro e w1 ⟨rfl,hB1,hT1,hK1⟩;rw[←G1.o];have y4:=(World.cell?_of_block (a:=⟨w.1.size,4,none⟩) (hT1.block w.1.size hx (by omega))).trans x4;have y5:=(World.cell?_of_block (a:=⟨w.1.size,5,none⟩) (hT1.block w.1.size hx (by omega))).trans x5;have y6:=(World.cell?_of_block (a:=⟨w.1.size,6,none⟩) (hT1.block w.1.size hx (by omega))).trans x6;have hx1:=Nat.lt_of_lt_of_le hx hT1.size;have HB1:=Zd hB1;have HE1:=Zd (HE.o.keepT hK1 (by decide));have HL1:=Zd (HL.o.keepT hK1 (by decide));have HU1:=Zd (HU.o.keepT hK1 (by decide));have HC1:=Zd (HC.o.keepT hK1 (by decide));have HT1:=Zd hT1;clear hB1 hT1 hK1 x3 x4 x5 x6 HB HE HL HU HC;go_wp2_with fail;refine(markOutS_any lo hi eo ec em k1 w1 (by omega) q1.1 (by omega) HE1.o).mono ?_;rintro e w2 ⟨rfl,hE2,hO2⟩;rw[←G2.o];have hK2:=HE1.o.keptBut hO2;have hT2:=HE1.o.between hO2;have z5:=(World.cell?_of_block (a:=⟨w.1.size,5,none⟩) (hT2.block w.1.size hx1 (by omega))).trans y5;have z6:=(World.cell?_of_block (a:=⟨w.1.size,6,none⟩) (hT2.block w.1.size hx1 (by omega))).trans y6;have hx2:=Nat.lt_of_lt_of_le hx1 hT2.size;have HB2:=Zd (HB1.o.keepT hK2 (by decide) (by decide));have HE2:=Zd hE2;have HL2:=Zd (HL1.o.keepT hK2 (by decide));have HU2:=Zd (HU1.o.keepT hK2 (by decide));have HC2:=Zd (HC1.o.keepT hK2 (by decide));have HT2:=Zd (HT1.o.trans hT2);clear hE2 hO2 hK2 hT2 y4 y5 y6 HB1 HE1 HL1 HU1 HC1 HT1;go_wp2_with fail;refine(markLostS_any lo hi fo fc fa k2 w2 (by omega) q2.1 (by omega) HL2.o).mono ?_;rintro e w3 ⟨rfl,hL3,hO3⟩;rw[←G3.o];have hK3:=HL2.o.keptBut hO3;have hT3:=HL2.o.between hO3;have v6:=(World.cell?_of_block (a:=⟨w.1.size,6,none⟩) (hT3.block w.1.size hx2 (by omega))).trans z6;have HB3:=Zd (HB2.o.keepT hK3 (by decide) (by decide));have HE3:=Zd (HE2.o.keepT hK3 (by decide));have HL3:=Zd hL3;have HU3:=Zd (HU2.o.keepT hK3 (by decide));have HC3:=Zd (HC2.o.keepT hK3 (by decide));have HT3:=Zd (HT2.o.trans hT3);clear hL3 hO3 hK3 hT3 z5 z6 HB2 HE2 HL2 HU2 HC2 HT2;go_wp2_with fail;refine(markIntS_any lo hi uo uc fu k3 w3 (by omega) q3.1 (by omega) HU3.o).mono ?_;rintro e w4 ⟨rfl,hU4,hO4⟩;rw[←G4.o];have hK4:=HU3.o.keptBut hO4;have hT4:=HU3.o.between hO4;have HB4:=Zd (HB3.o.keepT hK4 (by decide) (by decide));have HE4:=Zd (HE3.o.keepT hK4 (by decide));have HL4:=Zd (HL3.o.keepT hK4 (by decide));have HU4:=Zd hU4;have HC4:=Zd (HC3.o.off hOff.symm hO4);have HT4:=Zd (HT3.o.trans hT4);clear hU4 hO4 hK4 hT4 v6 HB3 HE3 HL3 HU3 HC3 HT3;go_wp2;go_ret;exact⟨rfl,⟨⟨_,HB4.o⟩,HE4.o,HL4.o,HU4.o⟩,HC4.o,_,Hb0.o,HT4.o⟩
theorem Ha(ti it:Int)(cl:Bool)(bo:Option Addr)(bc:Nat)(bx:List (List (Int×Int×Int)))(eo:Option Addr)(ec:Nat)(em:List (Int×Int×Int))(fo:Option Addr)(fc:Nat)(fa:List (Int×Int×Int×Int))(uo:Option Addr)(uc:Nat)(fu:List Int)(k:Int)(w:World)(hb:bx.length≤1048576∧Zs bx≤1048576)(he:em.length≤1048576)(hf:fa.length≤1048576)(hu:fu.length≤1048576)(hk0:0≤k)(hk1:k≤1000)(hI:InPipe w.1.size w bo (Ua k bx) eo (Nn (mkEm k bx) em.length) fo (Np (mkFa k bx em) fa.length) uo (Dr (mkFu k bx em fa) fu.length)) :
  Calls prog 25 #[.agg #[.int .i64 ti,.int .i64 it,.bool cl,.slice bo bx.length bc,.slice eo em.length ec,.slice fo fa.length fc,.slice uo fu.length uc],.int .i64 k] w fun e w'=>e=.returned (.int .i64 (Dn k bx em fa fu))∧Below w.1.size w w':=by
 have b1:=hb.1;have b2:=hb.2;have hb0:=Zk w (.cells #[.int .i64 ti,.int .i64 it,.bool cl,.slice bo bx.length bc,.slice eo em.length ec,.slice fo fa.length fc,.slice uo fu.length uc] 48);obtain⟨W0,hW0⟩:=nmd (w.alloc (.cells #[.int .i64 ti,.int .i64 it,.bool cl,.slice bo bx.length bc,.slice eo em.length ec,.slice fo fa.length fc,.slice uo fu.length uc] 48));have HW0:=Zd hW0;have X0:Bx W0 w.1.size [.int .i64 ti,.int .i64 it,.bool cl,.slice bo bx.length bc,.slice eo em.length ec,.slice fo fa.length fc,.slice uo fu.length uc]:=by rw[hW0];exact Bx.new (w:=w) [.int .i64 ti,.int .i64 it,.bool cl,.slice bo bx.length bc,.slice eo em.length ec,.slice fo fa.length fc,.slice uo fu.length uc] 48 rfl
 rw[←hW0]at hb0;obtain⟨⟨hs,hB⟩,hE,hL,hU⟩:=hI.later hb0;have HB:=Zd hB;have HE:=Zd hE;have HL:=Zd hL;have HU:=Zd hU;have Hb0:=Zd hb0;have x3:=X0.c 3 rfl;have x4:=X0.c 4 rfl;have x5:=X0.c 5 rfl;have x6:=X0.c 6 rfl;have E1:mkEm k bx=k+3*(Zs bx:Int):=rfl;have E2:mkFa k bx em=mkEm k bx+3*(em.length:Int):=rfl;have E3:mkFu k bx em fa=mkFa k bx em+4*(fa.length:Int):=rfl;have E4:Dn k bx em fa fu=mkFu k bx em fa+(fu.length:Int):=rfl
 generalize mkEm k bx=k1 at E1 E2 HE ⊢
 generalize mkFa k bx em=k2 at E2 E3 HL ⊢
 generalize mkFu k bx em fa=k3 at E3 E4 HU ⊢
 generalize Dn k bx em fa fu=k4 at E4 ⊢
 have q1:0≤k1∧k1≤3200000:=by omega
 have q2:0≤k2∧k2≤6400000:=by omega
 have q3:0≤k3∧k3≤12000000:=by omega
 have d1:decide (k1<0)=false:=by simp;omega
 have d2:decide (k2<0)=false:=by simp;omega
 have d3:decide (k3<0)=false:=by simp;omega
 have d4:decide (k4<0)=false:=by simp;omega
 have G1:=Zd E1;have G2:=Zd E2;have G3:=Zd E3;have G4:=Zd E4;clear hW0 hb0 hB hE hL hU hI X0 E1 E2 E3 E4;go_enter func25,ntmps25;go_wp2_with fail;rw[←HW0.o];refine(Bw bo bc hs bx k W0 b1 b2 hk0 (by omega) HB.o).mono ?_;rintro e w1 ⟨rfl,hw1⟩;rw[←G1.o,hw1];clear hw1 w1;go_wp2_with fail;refine(heldOutS_any eo ec em.length k1 W0 (by omega) q1.1 (by omega) HE.o).mono ?_;rintro e w1 ⟨rfl,hw1⟩;rw[←G2.o,hw1];clear hw1 w1;go_wp2_with fail;refine(heldLostS_any fo fc fa.length k2 W0 (by omega) q2.1 (by omega) HL.o).mono ?_;rintro e w1 ⟨rfl,hw1⟩;rw[←G3.o,hw1];clear hw1 w1;go_wp2_with fail;refine(heldIntS_any uo uc fu.length k3 W0 (by omega) q3.1 (by omega) HU.o).mono ?_;rintro e w1 ⟨rfl,hw1⟩;rw[←G4.o,hw1];clear hw1 w1;go_wp2;go_ret;exact⟨rfl,Hb0.o⟩
theorem Kind.RW.keepT{α:Type}{K:Kind α}{lo hi:Nat}{W W':World}{ao:Option Addr}{c:Nat}{xs:List α}{T:TypeId}(h:K.RW lo hi W ao c xs)(hk:KeptBut T W W')(hne:K.ty≠T):K.RW lo hi W' ao c xs :=
 ⟨Za h.1 fun b hb=>by
  rcases h.1.2 with⟨e,_⟩|⟨g,cap,cur,e,hg,hh,_⟩
  ·rw[e]at hb;simp[Value.ownBlock]at hb
  ·rw[e]at hb;simp[Value.ownBlock]at hb;subst hb;exact hk _ _ _ _ hh hne,h.2⟩
theorem GR.keepT{lo hi:Nat}{W W':World}{o:Option Addr}{c:Nat}{us:List LNode}{T:TypeId}(h:GR lo hi W o c us)(hk:KeptBut T W W')(h1:Pf.ty≠T)(h2:kI.ty≠T):GR lo hi W' o c us :=
 ⟨⟨h.1.1.keepT hk h1,fun j hj=>Kind.Fresh.keepT (K:=kI) (h.1.2.1 j hj) hk h2,h.1.2.2⟩,h.2.keepT hk h1⟩
theorem ScW.lt{q:Nat}{W:World}{st:SS}{O:Nat→Prop}(h:ScW q W st O):∀b,O b→q≤b∧b<W.1.size:=fun b hb=>by
 rcases h with⟨_,o,c,us,hi,hP,_,rfl⟩|⟨_,_,o,c,us,hi,hP,_,rfl⟩|⟨_,_,o,c,us,hi,lo,p,bb,so,sc,xs,ev,fv,uv,hP,_,_,rfl⟩
 ·exact⟨hP.own b hb,hP.oldO b hb⟩
 ·have:=hP.box.size;have e:b=q:=hb
  omega
 ·have h1:=hP.box.size
  rcases hb with e|hF
  ·omega
  ·have h2:=hP.flow.ge hF;have h3:=hP.flow.old hF;have h4:=hP.qlo
   omega
theorem ScW.size{q:Nat}{W:World}{st:SS}{O:Nat→Prop}(h:ScW q W st O):q<W.1.size:=by
 rcases h with⟨_,o,c,us,hi,hP,_⟩|⟨_,_,o,c,us,hi,hP,_⟩|⟨_,_,o,c,us,hi,lo,p,bb,so,sc,xs,ev,fv,uv,hP,_⟩ <;> exact hP.box.size
theorem ScW.keepT{q:Nat}{W W':World}{st:SS}{O:Nat→Prop}{T:TypeId}(h:ScW q W st O)(hs:W.1.size≤W'.1.size)(hO:∀b,O b→W'.heap[b]? = W.heap[b]?)(hk:KeptBut T W W')(h1:Pf.ty≠T)(h2:kI.ty≠T):ScW q W' st O:=by
 rcases h with⟨hb,o,c,us,hi,hP,hg,rfl⟩|⟨hb,hbad,o,c,us,hi,hP,hg,rfl⟩|⟨hb,hbad,o,c,us,hi,lo,p,bb,so,sc,xs,ev,fv,uv,hP,hg,hR,rfl⟩
 ·exact .inl ⟨hb,o,c,us,hi,⟨hP.box.keep hs (hO q (.inl rfl)),hP.gr.keepT hk h1 h2,hP.fit,Nat.le_trans hP.hi1 hs,hP.hi0⟩,hg,rfl⟩
 ·exact .inr (.inl ⟨hb,hbad,o,c,us,hi,⟨hP.box.keep hs (hO q rfl),hP.gr.keepT hk h1 h2,hP.fit,Nat.le_trans hP.hi1 hs,hP.hi0⟩,hg,rfl⟩)
 ·exact .inr (.inr ⟨hb,hbad,o,c,us,hi,lo,p,bb,so,sc,xs,ev,fv,uv,⟨hP.box.keep hs (hO q (.inl rfl)),hP.gr.keepT hk h1 h2,hP.fit,hP.hi1,hP.hi0,hP.flow.keep hs fun b hb=>hO b (.inr hb),hP.src.keepT hk h2,hP.pipe,hP.sci,hP.few⟩,hg,hR,rfl⟩)
end Go.Proofs.YtdacedbfnlkghaaGreatDoor