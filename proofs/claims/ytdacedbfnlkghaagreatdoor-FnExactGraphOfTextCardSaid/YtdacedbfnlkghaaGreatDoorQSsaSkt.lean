/- A script of the specification in memory, and what its lines are, plainly. Marks of pipes. What a script has come tz stays where other rows are written. No conditions but those written. -/
import Derived.Test.YtdacedbfnlkghaaGreatDoorQSpiSfm
namespace Go.Proofs.YtdacedbfnlkghaaGreatDoor
open Go.RowKit
section
open Go.RowKit
theorem cmdO_only{x:ByteArray}{n k:Nat}(hk:k<11)(hx:x=Vz k)(hn:n≠Uy k):cmdO x n=none:=by
 refine Da fun j hj h=>?_
 by_cases e:j=k
 ·subst e;exact hn h.2
 ·have h2:Vz k=Vz j:=by rw[←hx];exact h.1
  rcases Nat.lt_or_ge j k with h3|h3
  ·exact Re k j hk h3 h2
  ·exact Re j k hj (by omega) h2.symm
theorem cmdO_is{x:ByteArray}{n k:Nat}(hk:k<11)(hx:x=Vz k)(hn:n=Uy k):cmdO x n=some k:=by
 refine cmdO_hit hk ⟨hx,hn⟩ fun j hj h=>?_
 exact Re k j hk hj (by rw[←hx];exact h.1)
theorem cmdR_no{ws:List ByteArray}(h:∀l,Ji (ws.drop 1)=some l→cmdO (el ws 0) l.length=none):Dr ws=(0,[],false):=by
 unfold Dr
 split
 ·rfl
 ·rename_i l e;rw[h l e]
theorem cmdR_word{ws:List ByteArray}(h:∀j,j<11→el ws 0≠Vz j):Dr ws=(0,[],false) :=
 cmdR_no fun _ _=>Da fun j hj hh=>h j hj hh.1
theorem cmdR_many{ws:List ByteArray}{k:Nat}(hk:k<11)(hx:el ws 0=Vz k)(hn:ws.length≠1+Uy k)(h0:0<ws.length):Dr ws=(0,[],false) :=
 cmdR_no fun l e=>cmdO_only hk hx (by have:=Vb e;rw[List.length_drop]at this;omega)
theorem cmdR_nums{ws:List ByteArray}(h:Ji (ws.drop 1)=none):Dr ws=(0,[],false) :=
 cmdR_no fun l e=>by rw[h]at e;cases e
theorem cmdR_yes{ws:List ByteArray}{k:Nat}{l:List Int}(hk:k<11)(hx:el ws 0=Vz k)(hn:ws.length=1+Uy k)(h:Ji (ws.drop 1)=some l):Dr ws=((k:Int)+1,l,true):=by
 unfold Dr
 rw[h];dsimp only;rw[cmdO_is hk hx (by have:=Vb h;rw[List.length_drop]at this;omega)]
theorem formR_is{k:Nat}(hk:k<11):formR (Vz k)=((Uy k:Int),if k<6 then(k:Int)+1 else 0,true):=formR_hit hk fun j hj=>Re k j hk hj
structure QA(q:Nat)(W:World)(o:Option Addr)(c:Nat)(us:List LNode)(hi:Nat):Prop where
 box:Bx W q [.slice o us.length c,.pointer none,.bool false,.int .i64 0,.int .i64 0]
 gr:GR (q+1) hi W o c us
 fit:FitR us
 hi1:hi≤W.1.size
 hi0:q+1≤hi
structure QB(q:Nat)(W:World)(o:Option Addr)(c:Nat)(us:List LNode)(hi:Nat)(bad:Int):Prop where
 box:Bx W q [.slice o us.length c,.pointer none,.bool true,.int .i64 bad,.int .i64 0]
 gr:GR (q+1) hi W o c us
 fit:FitR us
 hi1:hi≤W.1.size
 hi0:q+1≤hi
structure QR(q:Nat)(W:World)(o:Option Addr)(c:Nat)(us:List LNode)(hi lo p bb:Nat)(xs:List Value)(ev fv uv:Value)(s:PP)(n:Nat):Prop where
 box:Bx W q [.slice o us.length c,.pointer (some ⟨p,0,none⟩),.bool true,.int .i64 0,.int .i64 (n:Int)]
 gr:GR (q+1) hi W o c us
 fit:FitR us
 hi1:hi≤lo
 hi0:q+1≤hi
 flow:FlowS lo W p bb (.slice o us.length c) xs ev fv uv s
 pipe:Kx (us.map Zz)=true
 sci:ScI (us.map Zz) n s
 few:n≤300
section
variable {q:Nat} {W W':World} {o:Option Addr} {c:Nat} {us:List LNode} {hi lo p bb:Nat} {xs:List Value} {ev fv uv:Value} {s s':PP} {n:Nat} {bad:Int}
theorem QA.later(h:QA q W o c us hi)(hb:Below W.1.size W W'):QA q W' o c us hi:=⟨h.box.later hb,h.gr.later hb,h.fit,Nat.le_trans h.hi1 hb.size,h.hi0⟩
theorem QB.later(h:QB q W o c us hi bad)(hb:Below W.1.size W W'):QB q W' o c us hi bad:=⟨h.box.later hb,h.gr.later hb,h.fit,Nat.le_trans h.hi1 hb.size,h.hi0⟩
theorem QR.later(h:QR q W o c us hi lo p bb xs ev fv uv s n)(hb:Below W.1.size W W'):QR q W' o c us hi lo p bb xs ev fv uv s n :=
 ⟨h.box.later hb,h.gr.later hb,h.fit,h.hi1,h.hi0,h.flow.later hb,h.pipe,h.sci,h.few⟩
theorem FlowS.geS(h:FlowS lo W p bb (.slice o us.length c) xs ev fv uv s){b:Nat}(hb:FO p bb xs ev fv uv b):lo≤b:=by
 rcases hb with rfl|rfl|⟨j,hj,hb⟩|hb|hb|hb
 ·exact h.lop
 ·exact h.lob
 ·have:=(Zj (h.hnd.row j (by rw[←h.hnd.len];exact hj)) hb).1;have:=h.lob
  omega
 ·exact(Zj h.emo hb).1
 ·exact(Zj h.fao hb).1
 ·exact(Zj h.fuo hb).1
theorem QR.good(h:QR q W o c us hi lo p bb xs ev fv uv s n):GoodE (us.map Zz)∧Ordd (us.map Zz) (Zv (us.map Zz))∧Ux (us.map Zz)≤400:=by
 have h00:Qv (us.map Zz)=0∧Ux (us.map Zz)≤400:=by have:=h.pipe;simpa[Kx]using this
 exact⟨Gn h00.1,Ky (Jw h00.1).2.2,h00.2⟩
theorem QR.qlo(h:QR q W o c us hi lo p bb xs ev fv uv s n):q<lo:=by have:=h.hi1;have:=h.hi0;omega
theorem QR.some(h:QR q W o c us hi lo p bb xs ev fv uv s n):∃gb goff,o=some ⟨gb,goff,none⟩∧0<us.length:=by
 have h00:Qv (us.map Zz)=0:=by have:=h.pipe;simp[Kx]at this;exact this.1
 have h1:0<us.length:=by have:=(Jw h00).1;rw[Zb]at this;omega
 obtain⟨b,off,e,_,_⟩:=Qz h.gr.in.1 h1;exact⟨b,off,e,h1⟩
theorem QR.put(h:QR q W o c us hi lo p bb xs ev fv uv s n){bb':Nat}{xs':List Value}{ev' fv' uv':Value}(F:FlowS lo W' p bb' (.slice o us.length c) xs' ev' fv' uv' s')(hlow:Below lo W W')(hI:ScI (us.map Zz) n s'):QR q W' o c us hi lo p bb' xs' ev' fv' uv' s' n :=
 ⟨h.box.below hlow h.qlo,h.gr.below hlow h.hi1,h.fit,h.hi1,h.hi0,F,h.pipe,hI,h.few⟩
theorem QR.step(h:QR q W o c us hi lo p bb xs ev fv uv s n)(hs:FStepS lo p (.slice o us.length c) (FO p bb xs ev fv uv) W W' s')(hI:ScI (us.map Zz) n s') :
  ∃bb' xs' ev' fv' uv',QR q W' o c us hi lo p bb' xs' ev' fv' uv' s' n∧Below q W W':=by
 obtain⟨O',⟨bb',xs',ev',fv',uv',F',hO'⟩,hsub,hlow,hkeep⟩:=hs;exact⟨bb',xs',ev',fv',uv',h.put F' hlow hI,hlow.mono (Nat.le_of_lt h.qlo)⟩
theorem QR.count(h:QR q W o c us hi lo p bb xs ev fv uv s n)(hn:n+1≤300):QR q (W.setCell ⟨q,4,none⟩ (.int .i64 ((n:Int)+1))) o c us hi lo p bb xs ev fv uv s (n+1):=by
 have hq:=h.qlo;have hnF:¬FO p bb xs ev fv uv q:=fun hF=>by have:=h.flow.geS hF;omega
 exact⟨h.box.set 4 _,h.gr.setOff (.inl (by dsimp only;omega)) _,h.fit,h.hi1,h.hi0,h.flow.setFar hnF _,h.pipe,h.sci.more,hn⟩
theorem FStepS.keptS{gv:Value}{O:Nat→Prop}(h:FStepS lo p gv O W W' s')(b:Nat)(hb:b<W.1.size)(hO:¬O b):W'.heap[b]? = W.heap[b]? := by
 obtain⟨O',_,_,_,hk⟩:=h;exact hk b hb hO
def Dl(q:Nat)(W:World)(o:Option Addr)(c:Nat)(us:List LNode)(hi lo p:Nat)(t:ByteArray)(s':PP)(n':Nat)(e:Ending)(W':World):Prop :=
 e=.returned (.string t)∧∃bb xs ev fv uv,QR q W' o c us hi lo p bb xs ev fv uv s' n'∧Below q W W'
end
def ScQ(q:Nat)(W:World)(st:SS):Prop :=
 (st.bg=false∧∃o c us hi,QA q W o c us hi∧us.map Zz=st.gs)∨
 (st.bg=true∧st.bad≠0∧∃o c us hi,QB q W o c us hi st.bad∧us.map Zz=st.gs)∨
 (st.bg=true∧st.bad=0∧∃o c us hi lo p bb xs ev fv uv,QR q W o c us hi lo p bb xs ev fv uv st.s st.n∧us.map Zz=st.gs∧RgI st.s)
def AnsLq(q:Nat)(W:World)(st:SS)(line:ByteArray)(e:Ending)(W':World):Prop :=
 e=.returned (.string (Lq st line).2)∧ScQ q W' (Lq st line).1∧Below q W W'
theorem ScQ.later{q:Nat}{W W':World}{st:SS}(h:ScQ q W st)(hb:Below W.1.size W W'):ScQ q W' st:=by
 rcases h with⟨h0,o,c,us,hi,hQ,hg⟩|⟨h0,h1,o,c,us,hi,hQ,hg⟩|⟨h0,h1,o,c,us,hi,lo,p,bb,xs,ev,fv,uv,hQ,hg,hR⟩
 ·exact .inl ⟨h0,o,c,us,hi,hQ.later hb,hg⟩
 ·exact .inr (.inl ⟨h0,h1,o,c,us,hi,hQ.later hb,hg⟩)
 ·exact .inr (.inr ⟨h0,h1,o,c,us,hi,lo,p,bb,xs,ev,fv,uv,hQ.later hb,hg,hR⟩)
theorem ScQ.size{q:Nat}{W:World}{st:SS}(h:ScQ q W st):q<W.1.size:=by
 rcases h with⟨h0,o,c,us,hi,hQ,hg⟩|⟨h0,h1,o,c,us,hi,hQ,hg⟩|⟨h0,h1,o,c,us,hi,lo,p,bb,xs,ev,fv,uv,hQ,hg,hR⟩ <;> exact hQ.box.size
end
def KeptBut(T:TypeId)(w w':World):Prop:=∀(k:Nat)(cur:Array Value)(e:TypeId)(s:Nat×Nat),w.heap[k]? = some (.cells cur e s)→e≠T→w'.heap[k]? = w.heap[k]?
theorem Kind.Fresh.keepT{α:Type}{K:Kind α}{lo hi:Nat}{W W':World}{tz:Option Addr}{tc:Nat}{xs:List α}{T:TypeId}(h:K.Fresh lo hi W tz tc xs)(hk:KeptBut T W W')(hne:K.ty≠T):K.Fresh lo hi W' tz tc xs:=by
 rcases h with h|⟨g,e,hg,ho⟩
 ·exact .inl h
 ·obtain⟨cur,hc⟩:=owns_type ho;exact .inr ⟨g,e,hg,Kq ho (hk g cur _ _ hc hne)⟩
theorem Kind.RW.keepT{α:Type}{K:Kind α}{lo hi:Nat}{W W':World}{ao:Option Addr}{c:Nat}{xs:List α}{T:TypeId}(h:K.RW lo hi W ao c xs)(hk:KeptBut T W W')(hne:K.ty≠T):K.RW lo hi W' ao c xs :=
 ⟨Za h.1 fun b hb=>by
  rcases h.1.2 with⟨e,_⟩|⟨g,cap,cur,e,hg,hh,_⟩
  ·rw[e]at hb;simp[Value.ownBlock]at hb
  ·rw[e]at hb;simp[Value.ownBlock]at hb;subst hb;exact hk _ _ _ _ hh hne,h.2⟩
theorem GR.keepT{lo hi:Nat}{W W':World}{o:Option Addr}{c:Nat}{us:List LNode}{T:TypeId}(h:GR lo hi W o c us)(hk:KeptBut T W W')(h1:Gq.ty≠T)(h2:kI.ty≠T):GR lo hi W' o c us :=
 ⟨⟨h.1.1.keepT hk h1,fun j hj=>Kind.Fresh.keepT (K:=kI) (h.1.2.1 j hj) hk h2,h.1.2.2⟩,h.2.keepT hk h1⟩
theorem ScW.lt{q:Nat}{W:World}{st:SS}{O:Nat→Prop}(h:ScW q W st O):∀b,O b→q≤b∧b<W.1.size:=fun b hb=>by
 rcases h with⟨_,o,c,us,hi,hP,_,rfl⟩|⟨_,_,o,c,us,hi,hP,_,rfl⟩|⟨_,_,o,c,us,hi,lo,p,bb,so,sc,xs,ev,fv,uv,hP,_,_,rfl⟩
 ·exact⟨hP.own b hb,hP.oldO b hb⟩
 ·have:=hP.box.size;have e:b=q:=hb
  omega
 ·have h1:=hP.box.size
  rcases hb with e|hF
  ·omega
  ·have h2:=hP.flow.ge hF;have h3:=hP.flow.old hF;have h4:=hP.qlo
   omega
theorem ScW.size{q:Nat}{W:World}{st:SS}{O:Nat→Prop}(h:ScW q W st O):q<W.1.size:=by
 rcases h with⟨_,o,c,us,hi,hP,_⟩|⟨_,_,o,c,us,hi,hP,_⟩|⟨_,_,o,c,us,hi,lo,p,bb,so,sc,xs,ev,fv,uv,hP,_⟩ <;> exact hP.box.size
theorem ScW.keepT{q:Nat}{W W':World}{st:SS}{O:Nat→Prop}{T:TypeId}(h:ScW q W st O)(hs:W.1.size≤W'.1.size)(hO:∀b,O b→W'.heap[b]? = W.heap[b]?)(hk:KeptBut T W W')(h1:Gq.ty≠T)(h2:kI.ty≠T):ScW q W' st O:=by
 rcases h with⟨hb,o,c,us,hi,hP,hg,rfl⟩|⟨hb,hbad,o,c,us,hi,hP,hg,rfl⟩|⟨hb,hbad,o,c,us,hi,lo,p,bb,so,sc,xs,ev,fv,uv,hP,hg,hR,rfl⟩
 ·exact .inl ⟨hb,o,c,us,hi,⟨hP.box.keep hs (hO q (.inl rfl)),hP.gr.keepT hk h1 h2,hP.fit,Nat.le_trans hP.hi1 hs,hP.hi0⟩,hg,rfl⟩
 ·exact .inr (.inl ⟨hb,hbad,o,c,us,hi,⟨hP.box.keep hs (hO q rfl),hP.gr.keepT hk h1 h2,hP.fit,Nat.le_trans hP.hi1 hs,hP.hi0⟩,hg,rfl⟩)
 ·exact .inr (.inr ⟨hb,hbad,o,c,us,hi,lo,p,bb,so,sc,xs,ev,fv,uv,⟨hP.box.keep hs (hO q (.inl rfl)),hP.gr.keepT hk h1 h2,hP.fit,hP.hi1,hP.hi0,hP.flow.keep hs fun b hb=>hO b (.inr hb),hP.src.keepT hk h2,hP.pipe,hP.sci,hP.few⟩,hg,hR,rfl⟩)
end Go.Proofs.YtdacedbfnlkghaaGreatDoor