/- Numbers read: plainly. Texts cut at a mark: both sides. A number read: both sides. A number read: the two sides are one. No conditions but those written. -/
import Derived.Test.YtdacedbfnlkghaaGreatDoorUTncTpa
import Derived.Lib.OthersKept
import Derived.Shelf.Strconv.ErrVarAll
namespace Go.Proofs.YtdacedbfnlkghaaGreatDoor
set_option maxHeartbeats 4000000
set_option maxRecDepth 10000
open Go.RowKit Go.Proofs.Tryz
def Ug(d:UInt8):Bool:=decide (48≤d.toNat) && decide (d.toNat≤57)
def Vo:List UInt8→Nat→Nat
 | [],a=>a
 |d::r,a=>Vo r (10*a+(d.toNat-48))
theorem Hi:∀(l r:List UInt8)(a:Nat),Vo (l++r) a=Vo r (Vo l a)
 | [],_,_=>rfl
 |d::l,r,a=>by simp only[List.cons_append,Vo,Hi l r]
def Pw(d:List UInt8)(neg:Bool):Bool:=(decide (1≤d.length) && decide (d.length≤7)) && (!(d.head? == some 48 && (decide (1<d.length)||neg)) && d.all Ug)
def Wn(s:List UInt8):Option Int :=
 if s.head? = some 45 then(if Pw (s.drop 1) true=true then some (-(Vo (s.drop 1) 0:Int))else none)
 else(if Pw s false=true then some (Vo s 0:Int)else none)
theorem Tq:∀(l:List UInt8)(a:Nat),(∀d∈l,Ug d=true)→Vo l a<(a+1)*10 ^ l.length
 | [],a,_=>by simp[Vo]
 |d::r,a,h=>by
  have hd:=h d (by simp);have ih:=Tq r (10*a+(d.toNat-48)) fun x hx=>h x (by simp[hx])
  simp only[Ug,Bool.and_eq_true,decide_eq_true_eq]at hd;rw[Vo,List.length_cons,Nat.pow_succ];refine Nat.lt_of_lt_of_le ih ?_;rw[Nat.mul_comm (10 ^ r.length) 10,←Nat.mul_assoc];exact Nat.mul_le_mul_right _ (by omega)
theorem valD_ge:∀(l:List UInt8)(a:Nat),a≤Vo l a
 | [],a=>Nat.le_refl _
 |d::r,a=>by rw[Vo];exact Nat.le_trans (by omega) (valD_ge r _)
theorem dg_nat{x:UInt8}(h:Ug x=true):UInt8.ofNat (48+(x.toNat-48))=x:=by
 simp only[Ug,Bool.and_eq_true,decide_eq_true_eq]at h;rw[show 48+(x.toNat-48)=x.toNat by omega];simp
theorem Ts:∀(n:Nat)(l:List UInt8),l.length=n+1→(∀d∈l,Ug d=true)→(l.head? = some 48→l.length=1)→Lib.decDigits (Vo l 0)=l
 |0,l,hl,h,_=>by
  match l,hl with
  | [x],_ =>
   have hx:=h x (by simp);have hx2:=hx;simp only[Ug,Bool.and_eq_true,decide_eq_true_eq]at hx2;rw[Vo,Vo,Lib.decDigits_one (by omega),Nat.mul_zero,Nat.zero_add,dg_nat hx]
 |n+1,l,hl,h,h0=>by
  obtain⟨r,x,rfl⟩:∃r x,l=r++[x]:=⟨l.dropLast,l.getLast (by intro e;rw[e]at hl;simp at hl),(List.dropLast_concat_getLast _).symm⟩;have hr:r.length=n+1:=by simpa using hl
  have hx:=h x (by simp);have hx2:=hx;simp only[Ug,Bool.and_eq_true,decide_eq_true_eq]at hx2;have hh:r.head?≠some 48:=by
   intro e;have:(r++[x]).head? = some 48:=by rw[List.head?_append,e];rfl
   have:=h0 this;rw[List.length_append,List.length_singleton]at this;omega
  have ih:=Ts n r hr (fun d hd=>h d (by simp[hd])) (fun e=>absurd e hh);have hpos:1≤Vo r 0:=by
   match r,hr,hh,h with
   |y::r2,_,hh,h =>
    have hy:=h y (by simp);simp only[Ug,Bool.and_eq_true,decide_eq_true_eq]at hy;have hne:y.toNat≠48:=fun e=>hh (by simp[←UInt8.toNat_inj,e])
    rw[Vo];exact Nat.le_trans (by omega) (valD_ge r2 _)
  rw[Hi,Vo,Vo,Lib.decDigits,dif_neg (by omega),show(10*Vo r 0+(x.toNat-48)) / 10=Vo r 0 by omega,show(10*Vo r 0+(x.toNat-48)) % 10=x.toNat-48 by omega,ih,dg_nat hx]
theorem Rq{k:Nat}(h:k<10):(UInt8.ofNat (48+k)).toNat=48+k:=by
 rw[UInt8.toNat_ofNat'];omega
theorem Pi(u:Nat):∀d∈Lib.decDigits u,Ug d=true:=by
 induction u using Nat.strongRecOn with
 |ind u ih =>
  intro d hd;rw[Lib.decDigits]at hd
  split at hd
  ·next h =>
   rw[List.mem_singleton]at hd;subst hd;rw[Ug,Rq h];simp;omega
  ·next h =>
   rcases List.mem_append.1 hd with hd|hd
   ·exact ih (u / 10) (by omega) d hd
   ·rw[List.mem_singleton]at hd;subst hd;rw[Ug,Rq (k:=u % 10) (by omega)];simp;omega
theorem Bp(u:Nat):Vo (Lib.decDigits u) 0=u:=by
 induction u using Nat.strongRecOn with
 |ind u ih =>
  rw[Lib.decDigits]
  split
  ·next h=>rw[Vo,Vo,Rq h];omega
  ·next h=>rw[Hi,ih (u / 10) (by omega),Vo,Vo,Rq (by omega)];omega
theorem dec_head(u:Nat)(h:1≤u):(Lib.decDigits u).head?≠some 48:=by
 induction u using Nat.strongRecOn with
 |ind u ih =>
  rw[Lib.decDigits]
  split
  ·next h10 =>
   intro e;have e2:=congrArg UInt8.toNat (Option.some.inj e);rw[Rq h10]at e2;have:(48:UInt8).toNat=48:=rfl
   omega
  ·next h10 =>
   intro e;have hne:Lib.decDigits (u / 10)≠[]:=fun e0=>by
    have:=Lib.decDigits_length (u / 10);rw[e0]at this;have h1:=Bp (u / 10);rw[e0,Vo]at h1;omega
   rw[List.head?_append]at e
   cases hd:(Lib.decDigits (u / 10)).head? with
   |none=>exact hne (List.head?_eq_none_iff.1 hd)
   |some x =>
    rw[hd]at e;exact ih (u / 10) (by omega) (by omega) (by rw[hd];simpa using e)
theorem dec_len:∀(k u:Nat),u<10 ^ (k+1)→(Lib.decDigits u).length≤k+1:=by
 intro k
 induction k with
 |zero=>intro u h;rw[Lib.decDigits_one (by simpa using h)];simp
 |succ k ih =>
  intro u h;rw[Lib.decDigits]
  split
  ·simp
  ·have:=ih (u / 10) (by rw[Nat.pow_succ]at h;omega)
   simp;omega
theorem dec_pos(u:Nat):1≤(Lib.decDigits u).length:=by
 rw[Lib.decDigits]
 split <;> simp
theorem dec_zero:Lib.decDigits 0=[48]:=by rw[Lib.decDigits_one (by omega)];rfl
theorem dec_sign(u:Nat):(Lib.decDigits u).head?≠some 45:=by
 intro e;have hm:(45:UInt8)∈Lib.decDigits u:=List.mem_of_mem_head? (by rw[e];rfl);have:=Pi u 45 hm
 simp[Ug]at this
theorem numL_itoa(n:Int)(h0 : -9999999≤n)(h1:n≤9999999):Wn (Lib.itoa n)=some n:=by
 by_cases hn:n<0
 ·obtain⟨u,hu,rfl⟩:∃u:Nat,1≤u∧n = -(u:Int):=⟨n.natAbs,by omega,by omega⟩;rw[Lib.itoa_neg u hu,Wn,if_pos (show(45::Lib.decDigits u).head? = some 45 from rfl)];have hl:=dec_len 6 u (by omega);have hp:=dec_pos u;have hh:=dec_head u hu;have hD:Pw (Lib.decDigits u) true=true:=by
   have ha:(Lib.decDigits u).all Ug=true:=List.all_eq_true.2 (Pi u);simp only[Pw,ha,Bool.and_true,Bool.and_eq_true,decide_eq_true_eq,Bool.not_eq_true',Bool.or_true];exact⟨⟨hp,hl⟩,by simpa using hh⟩
  rw[List.drop_one,List.tail_cons,if_pos hD,Bp]
 ·obtain⟨u,rfl⟩:∃u:Nat,n=(u:Int):=⟨n.toNat,by omega⟩;rw[Lib.itoa_nonneg,Wn,if_neg (dec_sign u)];have hl:=dec_len 6 u (by omega);have hp:=dec_pos u;have hD:Pw (Lib.decDigits u) false=true:=by
   have ha:(Lib.decDigits u).all Ug=true:=List.all_eq_true.2 (Pi u);simp only[Pw,ha,Bool.and_true,Bool.and_eq_true,decide_eq_true_eq,Bool.not_eq_true',Bool.or_false];refine⟨⟨hp,hl⟩,?_⟩
   by_cases hu:u=0
   ·subst hu;rw[dec_zero];rfl
   ·have:=dec_head u (by omega);have e:((Lib.decDigits u).head? == some 48)=false:=by simpa using this
    rw[e];rfl
  rw[if_pos hD,Bp]
theorem Mu{s:List UInt8}{n:Int}(h:Wn s=some n):Lib.itoa n=s∧-9999999≤n∧n≤9999999:=by
 unfold Wn at h
 split at h
 ·next h45 =>
  split at h
  ·next hD =>
   have e:=Option.some.inj h;simp only[Pw,Bool.and_eq_true,decide_eq_true_eq,Bool.not_eq_true',Bool.or_true,Bool.and_true,List.all_eq_true]at hD;obtain⟨⟨hl1,hl7⟩,hh,ha⟩:=hD;have hs:s=45::s.drop 1:=by
    cases s with
    |nil=>simp at h45
    |cons x r=>simp at h45;subst h45;rfl
   generalize s.drop 1=d at *
   have hne:d.head?≠some 48:=by simpa using hh
   have hdv:=Ts (d.length-1) d (by omega) ha (fun e=>absurd e hne);have hpos:1≤Vo d 0:=by
    rcases Nat.eq_zero_or_pos (Vo d 0)with h0|h0
    ·rw[h0,dec_zero]at hdv;rw[←hdv]at hne;exact absurd rfl hne
    ·exact h0
   have hlt:=Tq d 0 ha;have h7:10 ^ d.length≤10 ^ 7:=Nat.pow_le_pow_right (by omega) hl7;rw[←e];refine⟨?_,by omega,by omega⟩;rw[Lib.itoa_neg _ hpos,hdv,←hs]
  ·cases h
 ·split at h
  ·next hD =>
   have e:=Option.some.inj h;simp only[Pw,Bool.and_eq_true,decide_eq_true_eq,Bool.not_eq_true',Bool.or_false,List.all_eq_true]at hD;obtain⟨⟨hl1,hl7⟩,hh,ha⟩:=hD;have hone:s.head? = some 48→s.length=1:=fun e48=>by
    rw[e48]at hh;simp at hh;omega
   have hdv:=Ts (s.length-1) s (by omega) ha hone;have hlt:=Tq s 0 ha;have h7:10 ^ s.length≤10 ^ 7:=Nat.pow_le_pow_right (by omega) hl7;rw[←e];refine⟨?_,by omega,by omega⟩;rw[Lib.itoa_nonneg,hdv]
  ·cases h
theorem parse_ok:∀(l:List UInt8)(a k:Nat),(∀d∈l,Ug d=true)→a<10 ^ k→l.length+k≤18→Lib.parseUint10 a l=.ok (Vo l a)
 | [],a,k,_,_,_=>rfl
 |d::r,a,k,h,ha,hk=>by
  have hd:=h d (by simp);simp only[Ug,Bool.and_eq_true,decide_eq_true_eq]at hd;have hp:10 ^ k≤10 ^ 17:=Nat.pow_le_pow_right (by omega) (by simp at hk;omega);have ih:=parse_ok r (10*a+(d.toNat-48)) (k+1) (fun x hx=>h x (by simp[hx])) (by rw[Nat.pow_succ];omega) (by simp at hk;omega);rw[Lib.parseUint10,if_pos hd,if_neg (by omega),if_neg (by omega),Nat.mul_comm a 10,ih,Vo]
theorem atoi_itoa{n:Int}(h0 : -9999999≤n)(h1:n≤9999999):Lib.atoiAll (Lib.itoa n)=.ok n:=by
 by_cases hn:n<0
 ·obtain⟨u,hu,rfl⟩:∃u:Nat,1≤u∧n = -(u:Int):=⟨n.natAbs,by omega,by omega⟩;have hp:=parse_ok (Lib.decDigits u) 0 0 (Pi u) (by omega) (by have:=dec_len 6 u (by omega);omega);have hne:Lib.decDigits u≠[]:=List.ne_nil_of_length_pos (dec_pos u);rw[Lib.itoa_neg u hu];have hm:Lib.parseMag (Lib.decDigits u)=.ok u:=by rw[Lib.parseMag,if_neg hne,hp,Bp]
  simp[Lib.atoiAll,hm]
  omega
 ·obtain⟨u,rfl⟩:∃u:Nat,n=(u:Int):=⟨n.toNat,by omega⟩;have hp:=parse_ok (Lib.decDigits u) 0 0 (Pi u) (by omega) (by have:=dec_len 6 u (by omega);omega);have hne:Lib.decDigits u≠[]:=List.ne_nil_of_length_pos (dec_pos u);have hm:Lib.parseMag (Lib.decDigits u)=.ok u:=by rw[Lib.parseMag,if_neg hne,hp,Bp]
  have ha:=Pi u;rw[Lib.itoa_nonneg]
  cases hd:Lib.decDigits u with
  |nil=>exact absurd hd hne
  |cons c r =>
   rw[hd]at hm ha;have hc:=ha c (by simp);simp only[Ug,Bool.and_eq_true,decide_eq_true_eq]at hc;have c1:¬(c.toNat=43∨c.toNat=45):=by omega
   have c2:¬c.toNat=45:=by omega
   simp[Lib.atoiAll,c2,show¬c.toNat=43 by omega,hm]
   omega
def AnsS(w:World)(q:List ByteArray)(e:Ending)(w':World):Prop:=(∃go qc,e=.returned (.slice go q.length qc)∧(go=none→qc=0)∧kS.Fresh w.1.size w'.1.size w' go qc q)∧Below w.1.size w w'
theorem Xz(s:ByteArray)(m:Int)(w:World)(hs:s.size≤1048576) :
  Calls prog 85 #[.string s,.int .u8 m] w fun e w'=>AnsS w (Zw s m) e w':=by
 go_enter func85,ntmps85;go_wp2
 go_loopw [5,6,7] (fun u a i wr=>∃(k f:Nat)(v:Value)(acc:List ByteArray),v=u∧a=.int .i64 (f:Int)∧i=.int .i64 (k:Int)∧k≤s.size+1∧(k≤s.size→f≤k)∧acc.length≤k∧Zi (kS.Own w.1.size wr v acc)∧Zi ((k≤s.size→acc++Ql s m (s.size-k) k f=Zw s m)∧(k=s.size+1→acc=Zw s m))∧Below w.1.size w wr) (fun _ _ i _=>s.size+1-(intOf i).toNat)
 case atStart=>exact⟨0,0,_,[],rfl,rfl,rfl,Nat.zero_le _,fun _=>Nat.le_refl _,Nat.le_refl _,Kind.Own.nil _ _ _,⟨fun _=>rfl,fun h=>by omega⟩,Below.refl _ _⟩
 case round =>
  obtain⟨k,f,v,acc,rfl,rfl,rfl,hk,hfk,hal,hO,hI,hB⟩:=hrel;have hs1:=hB.size
  by_cases hlt:k<s.size
  ·have hfk':=hfk (by omega);have hx:=Kh hlt
   by_cases he:Yg s k=m
   ·have HI2:Zi ((k+1≤s.size→(acc++[s.extract f k])++Ql s m (s.size-(k+1)) (k+1) (k+1)=Zw s m)∧(k+1=s.size+1→acc++[s.extract f k]=Zw s m)):=by
     refine⟨fun _=>?_,fun h=>by omega⟩;rw[←hI.o.1 (by omega),show s.size-k=(s.size-(k+1))+1 by omega,Ql,if_pos he];simp
    have he':(((s[k]'hlt).toNat:Int)==m)=true:=by rw[←hx];simpa using he
    have hne:((k:Int)==(s.size:Int))=false:=by simp;omega
    clear he hx hI;have HA:Zi (kS.Own w.1.size (wr.alloc (.cells #[.string (s.extract f k)] 9)) v acc):=hO.o.below (Zk _ _);have HN:Zi (kS.In (wr.1.size+1) (wr.alloc (.cells #[.string (s.extract f k)] 9)) (some ⟨wr.1.size,0,none⟩) [s.extract f k]):=Vp (by omega) (by simp);have hBa:Below w.1.size w (wr.alloc (.cells #[.string (s.extract f k)] 9)):=Zx hB _;have hll:acc.length+1≤4194304:=by omega
    go_wp2_with (at_builtin;refine Kind.app kS_ok (wr.alloc (.cells #[.string (s.extract f k)] 9)) rfl (.tmp 25) (.tmp 30) rfl w.1.size v acc rfl HA.o (by simp;omega) (some ⟨wr.1.size,0,none⟩) [s.extract f k] 1 1 rfl rfl (by simp) _ HN.o hll ?_;intro v' w' hO' hB' hG' hn';have hB2:Below w.1.size w w':=hBa.trans (hB'.mono (by omega));have HO':Zi (kS.Own w.1.size w' v' (acc++[s.extract f k])):=hO';clear hO' hB' hG' hn');go_roundw
    case rel=>exact⟨k+1,k+1,v',acc++[s.extract f k],rfl,by go_num,by go_num,by omega,fun _=>Nat.le_refl _,by simp;omega,HO',HI2,hB2⟩
    case measure=>simp[intOf];omega
   ·have HI2:Zi ((k+1≤s.size→acc++Ql s m (s.size-(k+1)) (k+1) f=Zw s m)∧(k+1=s.size+1→acc=Zw s m)):=by
     refine⟨fun _=>?_,fun h=>by omega⟩;rw[←hI.o.1 (by omega),show s.size-k=(s.size-(k+1))+1 by omega,Ql,if_neg he]
    have he':(((s[k]'hlt).toNat:Int)==m)=false:=by rw[←hx];simpa using he
    have hne:((k:Int)==(s.size:Int))=false:=by simp;omega
    clear he hx hI;go_wp2;go_roundw
    case rel=>exact⟨k+1,f,v,acc,rfl,rfl,by go_num,by omega,fun _=>by omega,by omega,hO,HI2,hB⟩
    case measure=>simp[intOf];omega
  ·by_cases heq:k=s.size
   ·subst heq;have hfk':=hfk (Nat.le_refl _);have HI2:Zi ((s.size+1≤s.size→(acc++[s.extract f s.size])++Ql s m (s.size-(s.size+1)) (s.size+1) (s.size+1)=Zw s m)∧(s.size+1=s.size+1→acc++[s.extract f s.size]=Zw s m)):=by
     refine⟨fun h=>by omega,fun _=>?_⟩;rw[←hI.o.1 (Nat.le_refl _),Nat.sub_self,Ql]
    clear hI;have HA:Zi (kS.Own w.1.size (wr.alloc (.cells #[.string (s.extract f s.size)] 9)) v acc):=hO.o.below (Zk _ _);have HN:Zi (kS.In (wr.1.size+1) (wr.alloc (.cells #[.string (s.extract f s.size)] 9)) (some ⟨wr.1.size,0,none⟩) [s.extract f s.size]):=Vp (by omega) (by simp);have hBa:Below w.1.size w (wr.alloc (.cells #[.string (s.extract f s.size)] 9)):=Zx hB _;have hll:acc.length+1≤4194304:=by omega
    go_wp2_with (at_builtin;refine Kind.app kS_ok (wr.alloc (.cells #[.string (s.extract f s.size)] 9)) rfl (.tmp 25) (.tmp 30) rfl w.1.size v acc rfl HA.o (by simp;omega) (some ⟨wr.1.size,0,none⟩) [s.extract f s.size] 1 1 rfl rfl (by simp) _ HN.o hll ?_;intro v' w' hO' hB' hG' hn';have hB2:Below w.1.size w w':=hBa.trans (hB'.mono (by omega));have HO':Zi (kS.Own w.1.size w' v' (acc++[s.extract f s.size])):=hO';clear hO' hB' hG' hn');go_roundw
    case rel=>exact⟨s.size+1,s.size+1,v',acc++[s.extract f s.size],rfl,by go_num,by go_num,by omega,fun h=>by omega,by simp;omega,HO',HI2,hB2⟩
    case measure=>simp[intOf] <;> omega
   ·obtain rfl:k=s.size+1:=by omega
    obtain rfl:=hI.o.2 rfl;obtain⟨qo,qc,rfl,hn,hF⟩:=hO.o.fresh;have HF:=Zd hF;clear hF hO hI;go_wp2;go_ret;exact⟨⟨_,_,rfl,hn,HF.o⟩,hB⟩
theorem byteI_get{s:ByteArray}{k:Nat}(h:k<s.size):((s.get! k).toNat:Int)=Yg s k:=by
 rw[Kh h];have:s.get! k=s[k]:=by have:=get_at s k h;simpa using this
 rw[this]
theorem decode_skip(s:ByteArray)(pos:Nat)(h:pos<s.size)(ha:128≤Yg s pos):pos+(Utf8.decode s pos).2≤s.size∧∀k,pos≤k→k<pos+(Utf8.decode s pos).2→128≤Yg s k:=by
 have ha':¬(s[pos]'h).toNat<128:=by rw[Kh h]at ha;omega
 have hb:∀k,k<s.size→(s.get! k).toNat / 64=2→128≤Yg s k:=fun k hk e=>by
  have:=byteI_get hk
  omega
 simp only[Utf8.decode,get_at s pos h,ha',if_false];have h1:pos+1≤s.size∧∀k,pos≤k→k<pos+1→128≤Yg s k:=⟨by omega,fun k h1 h2=>by rw[show k=pos by omega];exact ha⟩
 split
 ·next c =>
  simp only[Bool.and_eq_true,beq_iff_eq,decide_eq_true_eq]at c
  split
  ·refine⟨by dsimp only;omega,fun k k1 k2=>?_⟩;dsimp only at k2
   rcases(show k=pos∨k=pos+1 from by omega)with rfl|rfl
   ·exact ha
   ·exact hb _ c.2.1 c.2.2
  ·exact h1
 ·split
  ·next c =>
   simp only[Bool.and_eq_true,beq_iff_eq,decide_eq_true_eq]at c
   split
   ·refine⟨by dsimp only;omega,fun k k1 k2=>?_⟩;dsimp only at k2
    rcases(show k=pos∨k=pos+1∨k=pos+2 from by omega)with rfl|rfl|rfl
    ·exact ha
    ·exact hb _ c.1.2.1 c.1.2.2
    ·exact hb _ c.2.1 c.2.2
   ·exact h1
  ·split
   ·next c =>
    simp only[Bool.and_eq_true,beq_iff_eq,decide_eq_true_eq]at c
    split
    ·refine⟨by dsimp only;omega,fun k k1 k2=>?_⟩;dsimp only at k2
     rcases(show k=pos∨k=pos+1∨k=pos+2∨k=pos+3 from by omega)with rfl|rfl|rfl|rfl
     ·exact ha
     ·exact hb _ c.1.1.2.1 c.1.1.2.2
     ·exact hb _ c.1.2.1 c.1.2.2
     ·exact hb _ c.2.1 c.2.2
    ·exact h1
   ·exact h1
theorem rune_step(s:ByteArray)(pos:Nat)(m:Nat)(h:pos<s.size)(hm:m<128) :
  ((Utf8.decode s pos).1=m∧Yg s pos=(m:Int)∧(Utf8.decode s pos).2=1)∨((Utf8.decode s pos).1≠m∧1≤(Utf8.decode s pos).2∧pos+(Utf8.decode s pos).2≤s.size∧∀k,pos≤k→k<pos+(Utf8.decode s pos).2→Yg s k≠(m:Int)):=by
 by_cases ha:(s[pos]'h).toNat<128
 ·rw[decode_ascii s pos h ha]
  by_cases he:(s[pos]'h).toNat=m
  ·exact .inl ⟨he,by rw[Kh h];omega,rfl⟩
  ·refine .inr ⟨he,Nat.le_refl _,by dsimp only;omega,fun k h1 h2=>?_⟩;dsimp only at h2;obtain rfl:k=pos:=by omega
   rw[Kh h];omega
 ·have hk:=decode_skip s pos h (by rw[Kh h];omega);have hd:=decode_high s pos h (by omega);exact .inr ⟨by omega,hd.2,hk.1,fun k h1 h2=>by have:=hk.2 k h1 h2;omega⟩
theorem Xj(s:ByteArray)(m:Nat)(w:World)(hs:s.size≤1048576)(hm:m<128) :
  Calls prog 34 #[.string s,.int .i32 (m:Int)] w fun e w'=>AnsS w (Zw s (m:Int)) e w':=by
 go_enter func34,ntmps34;go_wp2
 go_loopw [5,6] (fun u a wr=>∃(k f:Nat)(v:Value)(acc:List ByteArray),v=u∧a=.int .i64 (f:Int)∧k≤s.size∧f≤k∧acc.length≤k∧wr.heap[w.1.size]? = some (.stringIter s k)∧Zi (kS.Own (w.1.size+1) wr v acc)∧Zi (acc++Ql s (m:Int) (s.size-k) k f=Zw s (m:Int))∧Below w.1.size w wr) (fun _ _ wr=>s.size-wr.iterPos w.1.size)
 case atStart=>exact⟨0,0,_,[],rfl,rfl,Nat.zero_le _,Nat.le_refl _,Nat.le_refl _,World.iter_heap w s 0,Kind.Own.nil _ _ _,rfl,(Below.refl _ w).alloc (Nat.le_refl _) _⟩
 case round =>
  obtain⟨k,f,v,acc,rfl,rfl,hk,hfk,hal,hit,hO,hI,hB⟩:=hrel;have hs1:w.1.size<wr.1.size:=(Array.getElem?_eq_some_iff.1 hit).1
  by_cases hlt:k<s.size
  ·have hnx:∀ty,(Instr.next (.pointer (some ⟨w.1.size,0,none⟩)) true ty).run prog wr=_:=fun ty=>Lib.run_next_any_at wr w.1.size s k ty hit hlt
   have hd1:=decode_le s k;have hit2:=Lib.iterAt_heap wr w.1.size s k (k+(Utf8.decode s k).2) hit;have hB1:=Lib.below_iterAt hB (k:=w.1.size) (Nat.le_refl _) s (k+(Utf8.decode s k).2);have hO1:kS.Own (w.1.size+1) (wr.iterAt w.1.size s (k+(Utf8.decode s k).2)) v acc:=hO.o.keep fun j hj _=>Lib.iterAt_other _ _ _ _ _ (by omega)
   have hz1:(wr.iterAt w.1.size s (k+(Utf8.decode s k).2)).heap.size=wr.1.size:=Lib.iterAt_size _ _ _ _;have hip:wr.iterPos w.1.size=k:=by simp[World.iterPos,hit]
   obtain⟨W1,hW1⟩:=nmd (wr.iterAt w.1.size s (k+(Utf8.decode s k).2));rw[←hW1]at hit2 hB1 hO1 hz1 hnx;have HO1:=Zd hO1;have hsz:w.1.size<W1.1.size:=by omega
   have HIP:=Zd hip;clear hO hit hW1 hz1 hip hO1
   rcases rune_step s k m hlt hm with⟨e1,e2,e3⟩|⟨e1,e2,e3,e4⟩
   ·have HI2:Zi ((acc++[s.extract f k])++Ql s (m:Int) (s.size-(k+1)) (k+1) (k+1)=Zw s (m:Int)):=by
     rw[Zi,←hI.o,show s.size-k=(s.size-(k+1))+1 by omega,Ql,if_pos e2];simp
    rw[e3]at hit2;rw[e1]at hnx;clear e1 e2 e3 hI hd1;have HA:Zi (kS.Own (w.1.size+1) (W1.alloc (.cells #[.string (s.extract f k)] 9)) v acc):=HO1.o.below (Zk _ _);have HN:Zi (kS.In (W1.1.size+1) (W1.alloc (.cells #[.string (s.extract f k)] 9)) (some ⟨W1.1.size,0,none⟩) [s.extract f k]):=Vp (by omega) (by simp);have hBa:Below w.1.size w (W1.alloc (.cells #[.string (s.extract f k)] 9)):=Zx hB1 _;have hll:acc.length+1≤4194304:=by omega
    go_wp2_with (at_builtin;refine Kind.app kS_ok (W1.alloc (.cells #[.string (s.extract f k)] 9)) rfl (.tmp 18) (.tmp 23) rfl (w.1.size+1) v acc rfl HA.o (by simp;omega) (some ⟨W1.1.size,0,none⟩) [s.extract f k] 1 1 rfl rfl (by simp) _ HN.o hll ?_;intro v' w' hO' hB' hG' hn';have hB2:Below w.1.size w w':=hBa.trans (hB'.mono (by omega));have HO':Zi (kS.Own (w.1.size+1) w' v' (acc++[s.extract f k])):=hO';have hit3:=hB'.block w.1.size (by omega);clear hO' hB' hG' hn');rw[Below.heap_alloc _ _ _ hsz,hit2]at hit3;go_roundw
    case rel=>exact⟨k+1,k+1,v',acc++[s.extract f k],rfl,by go_num,by omega,Nat.le_refl _,by simp;omega,hit3,HO',HI2,hB2⟩
    case measure =>
     have h3:w'.iterPos w.1.size=k+1:=by simp[World.iterPos,hit3]
     rw[h3,HIP.o];omega
   ·have HI2:Zi (acc++Ql s (m:Int) (s.size-(k+(Utf8.decode s k).2)) (k+(Utf8.decode s k).2) f=Zw s (m:Int)):=by
     rw[Zi,←hI.o,Hx s (m:Int) (Utf8.decode s k).2 (s.size-k) k f e4 (by omega),Nat.sub_sub]
    generalize(Utf8.decode s k).2=d at *
    generalize(Utf8.decode s k).1=r at *
    have e1':((r:Int)==(m:Int))=false:=by simp;omega
    clear e4 hI e1;go_wp2;go_roundw
    case rel=>exact⟨k+d,f,v,acc,rfl,rfl,by omega,by omega,by omega,hit2,HO1,HI2,hB1⟩
    case measure =>
     have h3:W1.iterPos w.1.size=k+d:=by simp[World.iterPos,hit2]
     rw[h3,HIP.o];omega
  ·obtain rfl:k=s.size:=by omega
   have hnx:∀ty,(Instr.next (.pointer (some ⟨w.1.size,0,none⟩)) true ty).run prog wr=_:=fun ty=>Lib.run_next_end_at wr w.1.size s s.size ty hit hlt
   have HI2:Zi (acc++[s.extract f s.size]=Zw s (m:Int)):=by rw[Zi,←hI.o,Nat.sub_self,Ql]
   have hB1:=hB;clear hI hit;have HA:Zi (kS.Own (w.1.size+1) (wr.alloc (.cells #[.string (s.extract f s.size)] 9)) v acc):=hO.o.below (Zk _ _);have HN:Zi (kS.In (wr.1.size+1) (wr.alloc (.cells #[.string (s.extract f s.size)] 9)) (some ⟨wr.1.size,0,none⟩) [s.extract f s.size]):=Vp (by omega) (by simp);have hBa:Below w.1.size w (wr.alloc (.cells #[.string (s.extract f s.size)] 9)):=Zx hB1 _;have hll:acc.length+1≤4194304:=by omega
   go_wp2_with (at_builtin;refine Kind.app kS_ok (wr.alloc (.cells #[.string (s.extract f s.size)] 9)) rfl (.tmp 27) (.tmp 31) rfl (w.1.size+1) v acc rfl HA.o (by simp;omega) (some ⟨wr.1.size,0,none⟩) [s.extract f s.size] 1 1 rfl rfl (by simp) _ HN.o hll ?_;intro v' w' hO' hB' hG' hn';have hB2:Below w.1.size w w':=hBa.trans (hB'.mono (by omega));have HO':Zi (kS.Own (w.1.size+1) w' v' (Zw s (m:Int))):=(by rw[Zi,←HI2.o];exact hO');obtain⟨qo,qc,hv',hno,hF⟩:=HO'.o.fresh;subst hv';have HF:=Zd hF;clear hF HO' hO' hB' hG' hn');go_ret;exact⟨⟨_,_,rfl,hno,HF.o.wide (by omega) (Nat.le_refl _)⟩,hB2⟩
def Tf(s:ByteArray):Int×Bool:=match Wn s.data.toList with|some n=>(n,true)|none=>(0,false)
theorem Vx{s:ByteArray}{n:Int}(h:Wn s.data.toList=some n):Tf s=(n,true):=by rw[Tf,h]
theorem Xr{s:ByteArray}(h:Wn s.data.toList=none):Tf s=(0,false):=by rw[Tf,h]
theorem Re{s:ByteArray}(h:0<s.size):s.data.toList.head? = some s[0]:=by
 have:=list_at (s:=s) (i:=0) h;rw[List.drop_zero]at this;rw[this];rfl
theorem Lh{l:List UInt8}{k:Nat}(h:k<l.length):Vo (l.take (k+1)) 0=10*Vo (l.take k) 0+((l[k]'h).toNat-48):=by
 rw[List.take_add_one,List.getElem?_eq_getElem h];simp only[Option.toList];rw[Hi,Vo,Vo]
theorem Dq{s:ByteArray}{k:Nat}(h:k<s.size):s.data.toList[k]'(by rw[Array.length_toList];exact h)=s[k]:=rfl
theorem negNum_is(s:ByteArray)(w:World)(hs:s.size≤1048576)(h0:0<s.size)(h45:(s[0]'h0).toNat=45)(D:ByteArray)(hD:D=s.extract 1 s.size) :
  Calls prog 110 #[.string s] w fun e w'=>e=.returned (if Pw D.data.toList true=true then .tuple #[.int .i64 (-(Vo D.data.toList 0:Int)),.bool true]else .tuple #[.int .i64 0,.bool false])∧w'=w:=by
 obtain⟨R,hR⟩:∃R:Value,R=(if Pw D.data.toList true=true then .tuple #[.int .i64 (-(Vo D.data.toList 0:Int)),.bool true]else .tuple #[.int .i64 0,.bool false]):=⟨_,rfl⟩;rw[←hR];have hb:(((s[0]'h0).toNat:Int)==45)=true:=by rw[h45];rfl
 have hc0:decide (0<(s.size:Int))=true:=by simpa using h0
 have hDs:D.size=s.size-1:=by rw[hD,ByteArray.size_extract];omega
 have HD:=Zd hD;have HDS:=Zd hDs;clear hD;have hlen:D.data.toList.length=D.size:=Array.length_toList
 by_cases hl:1≤D.size∧D.size≤7
 case neg =>
  have hnD:Pw D.data.toList true=false:=by
   unfold Pw;rw[hlen]
   have:(decide (1≤D.size) && decide (D.size≤7))=false:=by simp;omega
   rw[this];rfl
  rw[if_neg (by rw[hnD];simp)]at hR;subst hR;clear hnD hlen;go_enter func110,ntmps110;go_wp2_with fail;rw[←HD.o,←HDS.o];clear HD HDS hDs;refine(Zr (D.size:Int) 1 7 _ false (by simp;omega)).mono ?_;rintro e w1 ⟨rfl,hw1⟩;rw[hw1];clear hw1 w1
  go_wp2
  all_goals exact bodyPost_ret (v:=.tuple #[.int .i64 0,.bool false]) (by simp[results,results110,go_sem]) rfl ⟨rfl,rfl⟩
 obtain⟨hl1,hl7⟩:=hl;have hd0:0<D.size:=by omega
 have hhd:=Re hd0;have h48:(D.data.toList.head? == some 48)=decide ((D[0]'hd0).toNat=48):=by
  rw[hhd]
  by_cases h:(D[0]'hd0).toNat=48
  ·have:D[0]'hd0=48:=UInt8.toNat_inj.1 h;rw[this];rfl
  ·have:(D[0]'hd0)≠48:=fun e=>h (by rw[e];rfl)
   have e2:(some (D[0]'hd0)==some 48)=false:=by simpa using this
   rw[e2];simp[h]
 have hnum:Pw D.data.toList true=(!(decide ((D[0]'hd0).toNat=48) && (decide (1<D.size)||true)) && D.data.toList.all Ug):=by
  unfold Pw
  rw[hlen,h48]
  simp[hl1,hl7]
 clear hhd h48
 by_cases hz0:(D[0]'hd0).toNat=48
 ·have hz:(((D[0]'hd0).toNat:Int)==48)=true:=by simp;omega
  rw[if_neg (by rw[hnum];simp[hz0])]at hR;subst hR;clear hnum hz0;go_enter func110,ntmps110;go_wp2_with fail;rw[←HD.o,←HDS.o];clear HD HDS hDs;refine(Zr (D.size:Int) 1 7 _ true (by simp;omega)).mono ?_;rintro e w1 ⟨rfl,hw1⟩;rw[hw1];clear hw1 w1
  go_wp2
  all_goals exact bodyPost_ret (v:=.tuple #[.int .i64 0,.bool false]) (by simp[results,results110,go_sem]) rfl ⟨rfl,rfl⟩
 ·have hz:(((D[0]'hd0).toNat:Int)==48)=false:=by simp;omega
  have HR:=Zd hR;clear hR;have HN:Zi (Pw D.data.toList true=D.data.toList.all Ug):=by rw[Zi,hnum];simp[hz0]
  clear hnum hz0;go_enter func110,ntmps110;go_wp2_with fail;rw[←HD.o,←HDS.o];clear HD HDS hDs;refine(Zr (D.size:Int) 1 7 _ true (by simp;omega)).mono ?_;rintro e w1 ⟨rfl,hw1⟩;rw[hw1];clear hw1 w1
  go_wp2
  go_loop [6,7] (fun u i=>∃k:Nat,k≤D.size∧u=.int .i64 (Vo (D.data.toList.take k) 0:Int)∧i=.int .i64 (k:Int)∧Zi (∀d∈D.data.toList.take k,Ug d=true)) (fun _ i=>D.size-(intOf i).toNat)
  case atStart=>exact⟨0,Nat.zero_le _,rfl,rfl,fun d hd=>by simp at hd⟩
  case round =>
   obtain⟨k,hk,rfl,rfl,hall⟩:=hrel;have hvl:=Tq (D.data.toList.take k) 0 hall.o;have hpw:10 ^ (D.data.toList.take k).length≤10 ^ 7:=Nat.pow_le_pow_right (by omega) (by rw[List.length_take];omega)
   by_cases hlt:k<D.size
   ·have hx:=Kh hlt;have hk':k<D.data.toList.length:=by omega
    have hmem:(D[k]'hlt)∈D.data.toList:=List.getElem_mem hk'
    by_cases hdg:48≤(D[k]'hlt).toNat∧(D[k]'hlt).toNat≤57
    ·obtain⟨g1,g2⟩:=hdg;have HS:=Zd (Lh hk');have HT:=Zd (show∀d∈D.data.toList.take (k+1),Ug d=true from fun d hd=>by
      rw[List.take_add_one,List.getElem?_eq_getElem hk']at hd
      rcases List.mem_append.1 hd with hd|hd
      ·exact hall.o d hd
      ·have e:d=D[k]'hlt:=List.mem_singleton.1 (show d∈[D[k]'hlt]from hd);rw[e,Ug];simp[g1,g2])
     have HB:=Zd (Dq hlt);obtain⟨x,ex⟩:∃x:Nat,x=(D[k]'hlt).toNat:=⟨_,rfl⟩;have HX:=Zd ex;have g1':decide (((D[k]'hlt).toNat:Int)<48)=false:=by simp;omega
     have g2':decide (57<((D[k]'hlt).toNat:Int))=false:=by simp;omega
     have hw8:IntKind.u8.wrap (((D[k]'hlt).toNat:Int)-48)=((D[k]'hlt).toNat:Int)-48:=by show(((D[k]'hlt).toNat:Int)-48) % 256=_;omega
     rw[←ex]at g1' g2' hw8;obtain⟨v,ev⟩:∃v:Nat,v=Vo (D.data.toList.take k) 0:=⟨_,rfl⟩;rw[←ev]at hvl ⊢;have HV:=Zd ev;have hvb:v<10 ^ 7:=by omega
     clear hmem hall hx ev hvl hpw;have ex2:=ex;clear ex;go_wp2;go_round
     case rel=>exact⟨k+1,by omega,by rw[HS.o,←HV.o,HB.o];go_num,by go_num,HT⟩
     case measure=>simp[intOf];omega
    ·have HF:Zi (Pw D.data.toList true=false):=by
      rw[Zi,HN.o,List.all_eq_false];refine⟨_,hmem,?_⟩;simp only[Ug];simp;omega
     by_cases g1:(D[k]'hlt).toNat<48
     ·have g1':decide (((D[k]'hlt).toNat:Int)<48)=true:=by simp;omega
      clear hmem hall hx;go_wp2;refine bodyPost_ret (v:=.tuple #[.int .i64 0,.bool false]) (by simp[results,results110,go_sem]) rfl ⟨?_,rfl⟩;rw[HR.o,if_neg (by rw[HF.o];simp)]
     ·have g1':decide (((D[k]'hlt).toNat:Int)<48)=false:=by simp;omega
      have g2':decide (57<((D[k]'hlt).toNat:Int))=true:=by simp;omega
      clear hmem hall hx;go_wp2;refine bodyPost_ret (v:=.tuple #[.int .i64 0,.bool false]) (by simp[results,results110,go_sem]) rfl ⟨?_,rfl⟩;rw[HR.o,if_neg (by rw[HF.o];simp)]
   ·obtain rfl:k=D.size:=by omega
    have HT:Zi (Pw D.data.toList true=true):=by
     rw[Zi,HN.o,List.all_eq_true];have:=hall.o;rw[List.take_of_length_le (by omega)]at this;exact this
    rw[List.take_of_length_le (by omega)]at hvl ⊢;rw[List.take_of_length_le (by omega)]at hpw;have hR2:=HR.o;rw[if_pos HT.o]at hR2;obtain⟨v,ev⟩:∃v:Nat,v=Vo D.data.toList 0:=⟨_,rfl⟩;rw[←ev]at hvl hR2 ⊢;have hvb:v<10 ^ 7:=by omega
    subst hR2;clear ev hvl hpw;go_wp2;exact bodyPost_ret (v:=.tuple #[.int .i64 (-(v:Int)),.bool true]) (by simp[results,results110,go_sem]) rfl ⟨rfl,rfl⟩
theorem posNum_is(s:ByteArray)(w:World)(hs:s.size≤1048576)(h45:∀h:0<s.size,(s[0]'h).toNat≠45) :
  Calls prog 110 #[.string s] w fun e w'=>e=.returned (if Pw s.data.toList false=true then .tuple #[.int .i64 (Vo s.data.toList 0:Int),.bool true]else .tuple #[.int .i64 0,.bool false])∧w'=w:=by
 obtain⟨R,hR⟩:∃R:Value,R=(if Pw s.data.toList false=true then .tuple #[.int .i64 (Vo s.data.toList 0:Int),.bool true]else .tuple #[.int .i64 0,.bool false]):=⟨_,rfl⟩;rw[←hR];have hlen:s.data.toList.length=s.size:=Array.length_toList
 by_cases hl:1≤s.size∧s.size≤7
 case neg =>
  have hnD:Pw s.data.toList false=false:=by
   unfold Pw;rw[hlen]
   have:(decide (1≤s.size) && decide (s.size≤7))=false:=by simp;omega
   rw[this];rfl
  rw[if_neg (by rw[hnD];simp)]at hR;subst hR;clear hnD hlen
  by_cases h0:0<s.size
  ·have hc0:decide (0<(s.size:Int))=true:=by simpa using h0
   have hb:(((s[0]'h0).toNat:Int)==45)=false:=by have:=h45 h0;simp;omega
   go_enter func110,ntmps110;go_wp2_with fail;refine(Zr (s.size:Int) 1 7 _ false (by simp;omega)).mono ?_;rintro e w1 ⟨rfl,hw1⟩;rw[hw1];clear hw1 w1
   go_wp2
   all_goals exact bodyPost_ret (v:=.tuple #[.int .i64 0,.bool false]) (by simp[results,results110,go_sem]) rfl ⟨rfl,rfl⟩
  ·have hc0:decide (0<(s.size:Int))=false:=by simpa using h0
   go_enter func110,ntmps110;go_wp2_with fail;refine(Zr (s.size:Int) 1 7 _ false (by simp;omega)).mono ?_;rintro e w1 ⟨rfl,hw1⟩;rw[hw1];clear hw1 w1
   go_wp2
   all_goals exact bodyPost_ret (v:=.tuple #[.int .i64 0,.bool false]) (by simp[results,results110,go_sem]) rfl ⟨rfl,rfl⟩
 obtain⟨hl1,hl7⟩:=hl;have h0:0<s.size:=by omega
 have hc0:decide (0<(s.size:Int))=true:=by simpa using h0
 have hb:(((s[0]'h0).toNat:Int)==45)=false:=by have:=h45 h0;simp;omega
 clear h45;have hd0:0<s.size:=by omega
 have hhd:=Re hd0;have h48:(s.data.toList.head? == some 48)=decide ((s[0]'hd0).toNat=48):=by
  rw[hhd]
  by_cases h:(s[0]'hd0).toNat=48
  ·have:s[0]'hd0=48:=UInt8.toNat_inj.1 h;rw[this];rfl
  ·have:(s[0]'hd0)≠48:=fun e=>h (by rw[e];rfl)
   have e2:(some (s[0]'hd0)==some 48)=false:=by simpa using this
   rw[e2];simp[h]
 have hnum:Pw s.data.toList false=(!(decide ((s[0]'hd0).toNat=48) && (decide (1<s.size)||false)) && s.data.toList.all Ug):=by
  unfold Pw
  rw[hlen,h48]
  simp[hl1,hl7]
 clear hhd h48
 by_cases hz0:(s[0]'hd0).toNat=48
 ·by_cases h1:1<s.size
  ·have hz:(((s[0]'hd0).toNat:Int)==48)=true:=by simp;omega
   have hc1:decide (1<(s.size:Int))=true:=by simp;omega
   rw[if_neg (by rw[hnum];simp[hz0,h1])]at hR;subst hR;clear hnum hz0;go_enter func110,ntmps110;go_wp2_with fail;refine(Zr (s.size:Int) 1 7 _ true (by simp;omega)).mono ?_;rintro e w1 ⟨rfl,hw1⟩;rw[hw1];clear hw1 w1
   go_wp2
   all_goals exact bodyPost_ret (v:=.tuple #[.int .i64 0,.bool false]) (by simp[results,results110,go_sem]) rfl ⟨rfl,rfl⟩
  ·have hz:(((s[0]'hd0).toNat:Int)==48)=true:=by simp;omega
   have hc1:decide (1<(s.size:Int))=false:=by simp;omega
   have HR:=Zd hR;clear hR;have HN:Zi (Pw s.data.toList false=s.data.toList.all Ug):=by rw[Zi,hnum];simp[hz0,h1]
   clear hnum hz0;go_enter func110,ntmps110;go_wp2_with fail;refine(Zr (s.size:Int) 1 7 _ true (by simp;omega)).mono ?_;rintro e w1 ⟨rfl,hw1⟩;rw[hw1];clear hw1 w1
   go_wp2
   go_loop [6,7] (fun u i=>∃k:Nat,k≤s.size∧u=.int .i64 (Vo (s.data.toList.take k) 0:Int)∧i=.int .i64 (k:Int)∧Zi (∀d∈s.data.toList.take k,Ug d=true)) (fun _ i=>s.size-(intOf i).toNat)
   case atStart=>exact⟨0,Nat.zero_le _,rfl,rfl,fun d hd=>by simp at hd⟩
   case round =>
    obtain⟨k,hk,rfl,rfl,hall⟩:=hrel;have hvl:=Tq (s.data.toList.take k) 0 hall.o;have hpw:10 ^ (s.data.toList.take k).length≤10 ^ 7:=Nat.pow_le_pow_right (by omega) (by rw[List.length_take];omega)
    by_cases hlt:k<s.size
    ·have hx:=Kh hlt;have hk':k<s.data.toList.length:=by omega
     have hmem:(s[k]'hlt)∈s.data.toList:=List.getElem_mem hk'
     by_cases hdg:48≤(s[k]'hlt).toNat∧(s[k]'hlt).toNat≤57
     ·obtain⟨g1,g2⟩:=hdg;have HS:=Zd (Lh hk');have HT:=Zd (show∀d∈s.data.toList.take (k+1),Ug d=true from fun d hd=>by
       rw[List.take_add_one,List.getElem?_eq_getElem hk']at hd
       rcases List.mem_append.1 hd with hd|hd
       ·exact hall.o d hd
       ·have e:d=s[k]'hlt:=List.mem_singleton.1 (show d∈[s[k]'hlt]from hd);rw[e,Ug];simp[g1,g2])
      have HB:=Zd (Dq hlt);obtain⟨x,ex⟩:∃x:Nat,x=(s[k]'hlt).toNat:=⟨_,rfl⟩;have HX:=Zd ex;have g1':decide (((s[k]'hlt).toNat:Int)<48)=false:=by simp;omega
      have g2':decide (57<((s[k]'hlt).toNat:Int))=false:=by simp;omega
      have hw8:IntKind.u8.wrap (((s[k]'hlt).toNat:Int)-48)=((s[k]'hlt).toNat:Int)-48:=by show(((s[k]'hlt).toNat:Int)-48) % 256=_;omega
      rw[←ex]at g1' g2' hw8;obtain⟨v,ev⟩:∃v:Nat,v=Vo (s.data.toList.take k) 0:=⟨_,rfl⟩;rw[←ev]at hvl ⊢;have HV:=Zd ev;have hvb:v<10 ^ 7:=by omega
      clear hmem hall hx ev hvl hpw;have ex2:=ex;clear ex;go_wp2;go_round
      case rel=>exact⟨k+1,by omega,by rw[HS.o,←HV.o,HB.o];go_num,by go_num,HT⟩
      case measure=>simp[intOf];omega
     ·have HF:Zi (Pw s.data.toList false=false):=by
       rw[Zi,HN.o,List.all_eq_false];refine⟨_,hmem,?_⟩;simp only[Ug];simp;omega
      by_cases g1:(s[k]'hlt).toNat<48
      ·have g1':decide (((s[k]'hlt).toNat:Int)<48)=true:=by simp;omega
       clear hmem hall hx;go_wp2;refine bodyPost_ret (v:=.tuple #[.int .i64 0,.bool false]) (by simp[results,results110,go_sem]) rfl ⟨?_,rfl⟩;rw[HR.o,if_neg (by rw[HF.o];simp)]
      ·have g1':decide (((s[k]'hlt).toNat:Int)<48)=false:=by simp;omega
       have g2':decide (57<((s[k]'hlt).toNat:Int))=true:=by simp;omega
       clear hmem hall hx;go_wp2;refine bodyPost_ret (v:=.tuple #[.int .i64 0,.bool false]) (by simp[results,results110,go_sem]) rfl ⟨?_,rfl⟩;rw[HR.o,if_neg (by rw[HF.o];simp)]
    ·obtain rfl:k=s.size:=by omega
     have HT:Zi (Pw s.data.toList false=true):=by
      rw[Zi,HN.o,List.all_eq_true];have:=hall.o;rw[List.take_of_length_le (by omega)]at this;exact this
     rw[List.take_of_length_le (by omega)]at hvl ⊢;rw[List.take_of_length_le (by omega)]at hpw;have hR2:=HR.o;rw[if_pos HT.o]at hR2;obtain⟨v,ev⟩:∃v:Nat,v=Vo s.data.toList 0:=⟨_,rfl⟩;rw[←ev]at hvl hR2 ⊢;have hvb:v<10 ^ 7:=by omega
     subst hR2;clear ev hvl hpw;go_wp2;exact bodyPost_ret (v:=.tuple #[.int .i64 (v:Int),.bool true]) (by simp[results,results110,go_sem]) rfl ⟨rfl,rfl⟩
 ·have hz:(((s[0]'hd0).toNat:Int)==48)=false:=by simp;omega
  have HR:=Zd hR;clear hR;have HN:Zi (Pw s.data.toList false=s.data.toList.all Ug):=by rw[Zi,hnum];simp[hz0]
  clear hnum hz0;go_enter func110,ntmps110;go_wp2_with fail;refine(Zr (s.size:Int) 1 7 _ true (by simp;omega)).mono ?_;rintro e w1 ⟨rfl,hw1⟩;rw[hw1];clear hw1 w1
  go_wp2
  go_loop [6,7] (fun u i=>∃k:Nat,k≤s.size∧u=.int .i64 (Vo (s.data.toList.take k) 0:Int)∧i=.int .i64 (k:Int)∧Zi (∀d∈s.data.toList.take k,Ug d=true)) (fun _ i=>s.size-(intOf i).toNat)
  case atStart=>exact⟨0,Nat.zero_le _,rfl,rfl,fun d hd=>by simp at hd⟩
  case round =>
   obtain⟨k,hk,rfl,rfl,hall⟩:=hrel;have hvl:=Tq (s.data.toList.take k) 0 hall.o;have hpw:10 ^ (s.data.toList.take k).length≤10 ^ 7:=Nat.pow_le_pow_right (by omega) (by rw[List.length_take];omega)
   by_cases hlt:k<s.size
   ·have hx:=Kh hlt;have hk':k<s.data.toList.length:=by omega
    have hmem:(s[k]'hlt)∈s.data.toList:=List.getElem_mem hk'
    by_cases hdg:48≤(s[k]'hlt).toNat∧(s[k]'hlt).toNat≤57
    ·obtain⟨g1,g2⟩:=hdg;have HS:=Zd (Lh hk');have HT:=Zd (show∀d∈s.data.toList.take (k+1),Ug d=true from fun d hd=>by
      rw[List.take_add_one,List.getElem?_eq_getElem hk']at hd
      rcases List.mem_append.1 hd with hd|hd
      ·exact hall.o d hd
      ·have e:d=s[k]'hlt:=List.mem_singleton.1 (show d∈[s[k]'hlt]from hd);rw[e,Ug];simp[g1,g2])
     have HB:=Zd (Dq hlt);obtain⟨x,ex⟩:∃x:Nat,x=(s[k]'hlt).toNat:=⟨_,rfl⟩;have HX:=Zd ex;have g1':decide (((s[k]'hlt).toNat:Int)<48)=false:=by simp;omega
     have g2':decide (57<((s[k]'hlt).toNat:Int))=false:=by simp;omega
     have hw8:IntKind.u8.wrap (((s[k]'hlt).toNat:Int)-48)=((s[k]'hlt).toNat:Int)-48:=by show(((s[k]'hlt).toNat:Int)-48) % 256=_;omega
     rw[←ex]at g1' g2' hw8;obtain⟨v,ev⟩:∃v:Nat,v=Vo (s.data.toList.take k) 0:=⟨_,rfl⟩;rw[←ev]at hvl ⊢;have HV:=Zd ev;have hvb:v<10 ^ 7:=by omega
     clear hmem hall hx ev hvl hpw;have ex2:=ex;clear ex;go_wp2;go_round
     case rel=>exact⟨k+1,by omega,by rw[HS.o,←HV.o,HB.o];go_num,by go_num,HT⟩
     case measure=>simp[intOf];omega
    ·have HF:Zi (Pw s.data.toList false=false):=by
      rw[Zi,HN.o,List.all_eq_false];refine⟨_,hmem,?_⟩;simp only[Ug];simp;omega
     by_cases g1:(s[k]'hlt).toNat<48
     ·have g1':decide (((s[k]'hlt).toNat:Int)<48)=true:=by simp;omega
      clear hmem hall hx;go_wp2;refine bodyPost_ret (v:=.tuple #[.int .i64 0,.bool false]) (by simp[results,results110,go_sem]) rfl ⟨?_,rfl⟩;rw[HR.o,if_neg (by rw[HF.o];simp)]
     ·have g1':decide (((s[k]'hlt).toNat:Int)<48)=false:=by simp;omega
      have g2':decide (57<((s[k]'hlt).toNat:Int))=true:=by simp;omega
      clear hmem hall hx;go_wp2;refine bodyPost_ret (v:=.tuple #[.int .i64 0,.bool false]) (by simp[results,results110,go_sem]) rfl ⟨?_,rfl⟩;rw[HR.o,if_neg (by rw[HF.o];simp)]
   ·obtain rfl:k=s.size:=by omega
    have HT:Zi (Pw s.data.toList false=true):=by
     rw[Zi,HN.o,List.all_eq_true];have:=hall.o;rw[List.take_of_length_le (by omega)]at this;exact this
    rw[List.take_of_length_le (by omega)]at hvl ⊢;rw[List.take_of_length_le (by omega)]at hpw;have hR2:=HR.o;rw[if_pos HT.o]at hR2;obtain⟨v,ev⟩:∃v:Nat,v=Vo s.data.toList 0:=⟨_,rfl⟩;rw[←ev]at hvl hR2 ⊢;have hvb:v<10 ^ 7:=by omega
    subst hR2;clear ev hvl hpw;go_wp2;exact bodyPost_ret (v:=.tuple #[.int .i64 (v:Int),.bool true]) (by simp[results,results110,go_sem]) rfl ⟨rfl,rfl⟩
theorem Ze{a b:ByteArray}(h:a.toList=b.toList):a=b:=by
 rw[Lib.toList_data,Lib.toList_data]at h;exact Hd h
theorem Ve (s : ByteArray) (w : World) (hs : s.size ≤ 1048576) :
    Calls prog 110 #[.string s] w fun e w'=>e=.returned (.tuple #[.int .i64 (Tf s).1,.bool (Tf s).2])∧w'=w:=by
  by_cases h:∃h0:0<s.size,(s[0]'h0).toNat=45
  · obtain⟨h0,h45⟩:=h
    have hd:(s.extract 1 s.size).data.toList=s.data.toList.drop 1:=by
      rw[Gh,List.take_of_length_le]
      rw[List.length_drop,Array.length_toList];exact Nat.le_refl _
    have hh:s.data.toList.head? = some 45:=by
      rw[Re h0];exact congrArg some (UInt8.toNat_inj.1 (by rw[h45];rfl))
    refine(negNum_is s w hs h0 h45 _ rfl).mono fun e w' hh2=>⟨?_,hh2.2⟩
    rw[hh2.1,hd]
    by_cases hn:Pw (s.data.toList.drop 1) true=true
    · rw[if_pos hn,Vx (by rw[Wn,if_pos hh,if_pos hn])]
    · rw[if_neg hn,Xr (by rw[Wn,if_pos hh,if_neg hn])]
  · have h45:∀h0:0<s.size,(s[0]'h0).toNat≠45:=fun h0 e=>h ⟨h0,e⟩
    have hh:s.data.toList.head?≠some 45:=by
      intro e
      by_cases h0:0<s.size
      · rw[Re h0]at e
        exact h45 h0 (by rw[Option.some.inj e];rfl)
      · have:s.data.toList=[]:=List.length_eq_zero_iff.1 (by rw[Array.length_toList];have:s.data.size=s.size:=rfl;omega)
        rw[this]at e;cases e
    refine(posNum_is s w hs h45).mono fun e w' hh2=>⟨?_,hh2.2⟩
    rw[hh2.1]
    by_cases hn:Pw s.data.toList false=true
    · rw[if_pos hn,Vx (by rw[Wn,if_neg hh,if_pos hn])]
    · rw[if_neg hn,Xr (by rw[Wn,if_neg hh,if_neg hn])]
shelf_lay LaysC.n172 Nm 172 at Tryz as Tryz.laysAtoi
structure NErr(w:World):Prop where
 s:∃te pe,w.cell? ⟨4,0,none⟩=some (.iface te pe)
 r:∃te pe,w.cell? ⟨5,0,none⟩=some (.iface te pe)
theorem NErr.later{w w':World}(h:NErr w)(hb:Below w.1.size w w'):NErr w':=by
 obtain⟨⟨a,b,h1⟩,⟨c,d,h2⟩⟩:=h;exact⟨⟨a,b,(hb.cell (p:=⟨4,0,none⟩) (World.block_lt_of_cell? _ _ h1)).trans h1⟩,⟨c,d,(hb.cell (p:=⟨5,0,none⟩) (World.block_lt_of_cell? _ _ h2)).trans h2⟩⟩
theorem atoi_any(s:ByteArray)(w:World)(hs:s.size≤1048576)(hE:NErr w) :
  Calls prog 76 #[.string s] w fun e w'=>(∃(v:Int)(ev:Value),e=.returned (.tuple #[.int .i64 v,ev])∧((Lib.atoiAll s.data.toList=.ok v∧ev=.nilIface)∨((∀n,Lib.atoiAll s.data.toList≠.ok n)∧∃T N,ev=.iface T (.pointer (some ⟨N,0,none⟩)))))∧Below w.1.size w w':=by
 cases h:Lib.atoiAll s.data.toList
 ·rename_i v;refine(Any.strconv_Atoi_ok Tryz.laysAtoi s (by omega) v h w).mono fun e w' hh=>?_
  obtain⟨he,hw⟩:=hh;refine⟨⟨v,.nilIface,he,.inl ⟨rfl,rfl⟩⟩,?_⟩
  rcases hw with rfl|⟨t,rfl⟩
  ·exact Below.refl _ _
  ·exact Lib.bytesWorld_below _ _ _
 ·obtain⟨te,pe,hc⟩:=hE.s;refine(Any.strconv_Atoi_syntax Tryz.laysAtoi s (by omega) h _ w hc (.inr ⟨te,pe,rfl⟩)).mono fun e w' hh=>?_
  obtain⟨N,he,_,_,hb⟩:=hh;exact⟨⟨_,_,he,.inr ⟨fun n=>by simp,_,N,rfl⟩⟩,hb⟩
 ·obtain⟨te,pe,hc⟩:=hE.r;refine(Any.strconv_Atoi_range Tryz.laysAtoi s (by omega) h _ w hc (.inr ⟨te,pe,rfl⟩)).mono fun e w' hh=>?_
  obtain⟨N,he,_,_,hb⟩:=hh;exact⟨⟨_,_,he,.inr ⟨fun n=>by simp,_,N,rfl⟩⟩,hb⟩
theorem num_none_err{s:List UInt8}(h:∀n,Lib.atoiAll s≠.ok n):Wn s=none:=by
 cases hn:Wn s with
 |none=>rfl
 |some n =>
  obtain⟨e,h0,h1⟩:=Mu hn;exact absurd (by rw[←e];exact atoi_itoa h0 h1) (h n)
theorem Gq{s:List UInt8}{v:Int}(h:Lib.atoiAll s=.ok v)(hf:v < -9999999∨9999999<v∨Lib.itoa v≠s):Wn s=none:=by
 cases hn:Wn s with
 |none=>rfl
 |some n =>
  obtain⟨e,h0,h1⟩:=Mu hn;have h2:=atoi_itoa h0 h1;rw[e,h]at h2;obtain rfl:v=n:=by simpa using h2
  rcases hf with hf|hf|hf
  ·omega
  ·omega
  ·exact absurd e hf
theorem Pt(s:ByteArray)(w:World)(hs:s.size≤1048576)(hT:PowTab w)(hE:NErr w) :
  Calls prog 36 #[.string s] w fun e w'=>e=.returned (.tuple #[.int .i64 (Tf s).1,.bool (Tf s).2])∧Below w.1.size w w':=by
 obtain⟨⟨z,y⟩,hR⟩:∃R,Tf s=R:=⟨_,rfl⟩;rw[hR];dsimp only;have HR:=Zd hR;have HA:=Zd (atoi_any s w hs hE);have HT:=Zd hT;clear hR hE hT;go_enter func36,ntmps36;go_wp2_with fail;refine HA.o.mono ?_;rintro e w1 ⟨⟨v,ev,rfl,hcase⟩,hb1⟩
 rcases hcase with⟨hok,rfl⟩|⟨hno,T,N,rfl⟩
 ·by_cases h1:v < -9999999
  ·have HN:=Xr (Gq hok (.inl h1));rw[HR.o]at HN;obtain⟨rfl,rfl⟩:z=0∧y=false:=by simpa using HN
   go_wp2;exact bodyPost_ret (v:=.tuple #[.int .i64 0,.bool false]) (by simp[results,results36,go_sem]) rfl ⟨rfl,hb1⟩
  ·by_cases h2:9999999<v
   ·have HN:=Xr (Gq hok (.inr (.inl h2)));rw[HR.o]at HN;obtain⟨rfl,rfl⟩:z=0∧y=false:=by simpa using HN
    go_wp2;exact bodyPost_ret (v:=.tuple #[.int .i64 0,.bool false]) (by simp[results,results36,go_sem]) rfl ⟨rfl,hb1⟩
   ·have HI:=Zd (Vv v (by omega) (by omega) w1 (HT.o.later hb1))
    by_cases h3:Lib.itoa v=s.data.toList
    ·have HN:=Vx (s:=s) (n:=v) (by rw[←h3];exact numL_itoa v (by omega) (by omega));rw[HR.o]at HN;obtain⟨rfl,rfl⟩:z=v∧y=true:=by simpa using HN
     have hs2:tx (Lib.itoa z)=s:=by rw[h3];rfl
     rw[hs2]at HI;have hne:(s.toList != s.toList)=false:=by simp
     clear hs2 h3 HN;go_wp2_with fail;refine HI.o.mono ?_;rintro e w2 ⟨rfl,hb2⟩;go_wp2;exact bodyPost_ret (v:=.tuple #[.int .i64 z,.bool true]) (by simp[results,results36,go_sem]) rfl ⟨rfl,hb1.trans (hb2.mono hb1.size)⟩
    ·have HN:=Xr (Gq hok (.inr (.inr h3)));rw[HR.o]at HN;obtain⟨rfl,rfl⟩:z=0∧y=false:=by simpa using HN
     have hne:((tx (Lib.itoa v)).toList != s.toList)=true:=by
      simp only[bne_iff_ne,ne_eq];intro e
      apply h3
      have e2:=Ze e;rw[←e2];rfl
     have hne2:((tx (Lib.itoa v)).toList==s.toList)=false:=by simpa using hne
     have hne3:(tx (Lib.itoa v)).toList≠s.toList:=by simpa using hne
     generalize tx (Lib.itoa v)=t at HI hne hne2 hne3
     clear h3 HN;go_wp2_with fail;refine HI.o.mono ?_;rintro e w2 ⟨rfl,hb2⟩;go_wp2;exact bodyPost_ret (v:=.tuple #[.int .i64 0,.bool false]) (by simp[results,results36,go_sem]) rfl ⟨rfl,hb1.trans (hb2.mono hb1.size)⟩
 ·have HN:=Xr (num_none_err hno);rw[HR.o]at HN;obtain⟨rfl,rfl⟩:z=0∧y=false:=by simpa using HN
  go_wp2;exact bodyPost_ret (v:=.tuple #[.int .i64 0,.bool false]) (by simp[results,results36,go_sem]) rfl ⟨rfl,hb1⟩
end Go.Proofs.YtdacedbfnlkghaaGreatDoor