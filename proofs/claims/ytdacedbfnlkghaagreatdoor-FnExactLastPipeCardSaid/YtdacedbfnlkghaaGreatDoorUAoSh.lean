/- Putting behind a row: where the row lies then. Rows that are new and their own, also where they are empty. The draws' cursor: one more byte. The draws' cursor: a number, yes or no. The draws' cursor: a waiter. The draws' cursor: any number. The draws' cursor: a number of any size. Stages: when they are good, on both sides. Stages: when the program finds them good, and what it keeps of each kind No conditions but those written. -/
import Derived.Test.YtdacedbfnlkghaaGreatDoorUGenBx
import Derived.Laws.EntriesVeiled
namespace Go.Proofs.YtdacedbfnlkghaaGreatDoor
set_option maxHeartbeats 4000000
open Go.RowKit Go.Proofs.Tryz
section
open Go.RowKit
section
variable {α:Type} {K:Kind α}
theorem Kind.appO [Inhabited α] (hK:K.Ok) {ops:Array Oper} {rest:List Oper} {o:Oper} {a:Act} {Q:Exit→Act→World→Prop} (W:World) (hg:o.guard=none) (s x:Operand) (hop:o.op=Op.call { callee:=Callee.builtin Builtin.append,args := #[s,x],argTypes := #[K.st,K.st] })
  (lo g n cap:Nat) (xs:List α) (hs:a.eval s=.slice (some ⟨g,0,none⟩) n cap) (hown:K.Own lo W (.slice (some ⟨g,0,none⟩) n cap) xs) (hlo:lo≤W.1.size)
  (ao:Option Addr) (ys:List α) (m c:Nat) (hx:a.eval x=.slice ao m c) (hm:ys.length=m) (hno:ao=none→c=0) (N:Nat) (hz:K.In N W ao ys) (hl:xs.length+ys.length≤4194304) (zs:List α) (hzs:zs=xs++ys)
  (hk:∀g' c' w',K.Own lo w' (.slice (some ⟨g',0,none⟩) zs.length c') zs→Below lo W w'→W.grownBy w' (some g)→(g'=g∨W.1.size≤g')→wpList prog ops Q rest (a.put o.dst (.slice (some ⟨g',0,none⟩) zs.length c')) w') :
  wpList prog ops Q (o::rest) a W:=by
 subst hzs;obtain⟨i0,z0,hin,hz0,hz1,hz2,hz3⟩:=hK.info;obtain⟨g2,c2,e2,_⟩:=Kind.Own.some hown some_ne
 simp at e2
 obtain⟨rfl,rfl,rfl⟩:=e2
 cases ao with
 |none =>
  have hy:ys=[]:=by rcases hz with h|⟨b,off,e,_⟩;exact h;cases e
  subst hy;have hc:=hno rfl;subst hc hm;have hrun:=run_append_owned_none (P:=prog) W lo K.st o.type K.ty i0 K.sz hK.und hin _ xs.length (K.flat xs) hown;refine wpList_plain hg fun K' hK'=>?_
  unfold Oper.wp
  simp[execOp,hop,resolve,invoke,builtin,hs,hx,hrun,Result.andThen]
  have h:=hk g cap W (by simpa using hown) (Below.refl _ _) ⟨rfl,rfl,rfl,Nat.le_refl _,fun _ _ _=>rfl⟩ (.inl rfl);simp only[List.append_nil]at h;exact hK' _ _ h
 |some ad =>
  subst hm;have hb:(xs.length+ys.length)*i0.bytes≤140737488355328:=by
   have:(xs.length+ys.length)*i0.bytes≤4194304*4096:=Nat.mul_le_mul hl hz3
   omega
  have hml:xs.length+ys.length≤maxLen:=by unfold maxLen;omega
  obtain⟨v',w',hr,h2,h3,h4⟩:=run_append_own (P:=prog) W lo K.st o.type K.ty i0 z0 K.sz i0.bytes hK.und hin hz0 hz1 rfl hz2 hK.pos _ xs.length (K.flat xs) hown ad ys.length c (K.flat ys) (K.flat_len ys) hz.src (K.flat_one ys) hml hb hlo;have hwhere:∃g' c',v'=.slice (some ⟨g',0,none⟩) (xs.length+ys.length) c'∧(g'=g∨W.1.size≤g'):=by
   by_cases hroom:xs.length+ys.length≤cap
   ·obtain⟨cur,hcur,hcl,_⟩:=Yk hown;have hr2:=run_append_room (P:=prog) W K.st o.type K.ty i0 hK.und hin g xs.length cap cur.toArray hcur ad ys.length c (K.flat ys) (by rw[hz1];exact K.flat_len ys) hz.src (K.flat_one ys) hroom (by rw[hz1,K.flat_len,←Nat.add_mul];simp only[List.size_toArray,hcl];exact Nat.mul_le_mul_right _ hroom);rw[hr]at hr2
    injection hr2 with e1 _
    exact⟨g,cap,e1,.inl rfl⟩
   ·have holds:∀j u,(K.flat xs)[j]? = some u→W.cell? ((⟨g,0,none⟩:Addr).add j)=some u:=World.ownsRow.cells (g:=g) hown rfl;have hr2:=run_append_grow (P:=prog) W K.st o.type K.ty i0 z0 hK.und hin hz0 ⟨g,0,none⟩ xs.length cap (K.flat xs) (by rw[hz1];exact K.flat_len xs) holds ad ys.length c (K.flat ys) (by rw[hz1];exact K.flat_len ys) hz.src (by omega) (by omega) (growslice_fits (by omega) hb);rw[hr]at hr2
    injection hr2 with e1 _
    exact⟨_,_,e1,.inr (Nat.le_refl _)⟩
  obtain⟨g',c',rfl,hw⟩:=hwhere;refine wpList_plain hg fun K' hK'=>?_
  unfold Oper.wp execOp
  simp only[hop,resolve,invoke,builtin,Sem.run_bind,Sem.run_pure,Result.andThen_ok,List.map_toArray,List.map_cons,List.map_nil,hs,hx,hr];have ho':K.Own lo w' (.slice (some ⟨g',0,none⟩) (xs++ys).length c') (xs++ys):=by unfold Kind.Own;rw[K.flat_app,List.length_append];exact h2
  have h:=hk g' c' w' ho' (hown.belowG h3 hlo) h3 hw;rw[List.length_append]at h;exact hK' _ _ h
theorem Kq [Inhabited α] (hK:K.Ok) {ops:Array Oper} {rest:List Oper} {o:Oper} {a:Act} {Q:Exit→Act→World→Prop} (W:World) (hg:o.guard=none) (s x:Operand) (hop:o.op=Op.call { callee:=Callee.builtin Builtin.append,args := #[s,x],argTypes := #[K.st,K.st] })
  (lo:Nat) (v:Value) (xs:List α) (hs:a.eval s=v) (hown:K.Own lo W v xs) (hlo:lo≤W.1.size)
  (ao:Option Addr) (ys:List α) (m c:Nat) (hx:a.eval x=.slice ao m c) (hm:ys.length=m) (hno:ao=none→c=0) (n:Nat) (hz:K.In n W ao ys) (hl:xs.length+ys.length≤4194304)
  (hk:∀v' w',K.Own lo w' v' (xs++ys)→Below lo W w'→W.grownBy w' v.ownBlock→(∀g,v'.ownBlock=some g→v.ownBlock=some g∨W.1.size≤g)→wpList prog ops Q rest (a.put o.dst v') w') :
  wpList prog ops Q (o::rest) a W:=by
 rcases hown.2 with⟨e,h0⟩|⟨g,cap,cur,e,hb,hh,r⟩
 ·have hxs:xs=[]:=List.length_eq_zero_iff.1 h0;subst hxs e;refine Kind.app hK W hg s x hop W.1.size (.slice none 0 0) [] hs (Kind.Own.nil _ _ _) (Nat.le_refl _) ao ys m c hx hm hno n hz hl fun v' w' hO hB hG _=>?_
  refine hk v' w' ?_ (hB.mono hlo) hG fun g hg=>.inr (hO.low g hg)
  rcases hO.2 with h|⟨g,cap,cur,hv,hb,r⟩
  ·exact⟨hO.1,.inl h⟩
  ·exact⟨hO.1,.inr ⟨g,cap,cur,hv,Nat.le_trans hlo hb,r⟩⟩
 ·subst e;refine Kind.appO hK W hg s x hop lo g xs.length cap xs hs hown hlo ao ys m c hx hm hno n hz hl _ rfl fun g' c' w' hO hB hG hw=>?_
  refine hk _ w' hO hB hG fun b hb=>?_
  simp[Value.ownBlock]at hb ⊢
  subst hb
  rcases hw with h|h
  ·exact .inl h.symm
  ·exact .inr h
end
end
section
open Go.RowKit
section
variable {α:Type} {K:Kind α}
end
end
def Ju(n:Int):Bool:=decide (-1000000≤n) && decide (n≤1000000)
def Zg(k a b:Int):Bool :=
 if k=1 then(decide (-100≤a) && decide (a≤100)) && Ju b
 else if k=2∨k=4 then(decide (1≤a) && decide (a≤1000)) && (decide (0≤b) && decide (b≤a-1))
 else if k=3 then(decide (1≤a) && decide (a≤3)) && (decide (-1000≤b) && decide (b≤1000))
 else false
theorem goodSt1(a b:Int):Zg 1 a b=((decide (-100≤a) && decide (a≤100)) && Ju b):=rfl
theorem goodSt2(a b:Int):Zg 2 a b=((decide (1≤a) && decide (a≤1000)) && (decide (0≤b) && decide (b≤a-1))):=rfl
theorem goodSt4(a b:Int):Zg 4 a b=((decide (1≤a) && decide (a≤1000)) && (decide (0≤b) && decide (b≤a-1))):=rfl
theorem goodSt3(a b:Int):Zg 3 a b=((decide (1≤a) && decide (a≤3)) && (decide (-1000≤b) && decide (b≤1000))):=rfl
theorem goodSt0{k a b:Int}(h1:k≠1)(h2:k≠2)(h3:k≠3)(h4:k≠4):Zg k a b=false:=by
 unfold Zg;rw[if_neg h1,if_neg (by omega),if_neg h3]
theorem kinds(k:Int):k=1∨k=2∨k=3∨k=4∨(k≠1∧k≠2∧k≠3∧k≠4):=by omega
theorem Vu(n:Int)(w:World)(b:Bool)(hb:Ju n=b) :
  Calls prog 98 #[.int .i64 n] w fun e w'=>e=.returned (.bool b)∧w'=w:=by
 go_enter func98,ntmps98;go_wp2_with fail;refine(Zr n (-1000000) 1000000 _ b hb).mono ?_;rintro e w1 ⟨rfl,rfl⟩;go_wp2;go_ret;exact⟨rfl,rfl⟩
theorem Jv(n:Int)(w:World)(b:Bool)(hb:Ju n=b) :
  Calls prog 186 #[.int .i64 n] w fun e w'=>e=.returned (.bool b)∧w'=w:=by
 subst hb
 by_cases h : -1000000≤n
 ·go_enter func186,ntmps186;go_wp2;go_ret;exact⟨Zp (by simp[h,Ju]),rfl⟩
 ·have h':decide (-1000000≤n)=false:=by simpa using h
  go_enter func186,ntmps186;go_wp2;go_ret;exact⟨Zp (by simp[Ju];omega),rfl⟩
theorem Js(k a b:Int)(w:World)(r:Bool)(hr:Zg k a b=r) :
  Calls prog 71 #[.agg #[.int .i64 k,.int .i64 a,.int .i64 b]] w fun e w'=>e=.returned (.bool r)∧w'=w.alloc (.cells #[.int .i64 k,.int .i64 a,.int .i64 b] 24):=by
 have HR:Zi (Zg k a b=r):=hr;clear hr
 rcases kinds k with rfl|rfl|rfl|rfl|⟨h1,h2,h3,h4⟩
 ·rcases hb:(decide (-100≤a) && decide (a≤100))with _|_
  ·have hc:Zi ((decide (-100≤a) && decide (a≤100))=false):=hb;clear hb;go_enter func71,ntmps71;go_wp2_with fail;refine(Zr a (-100) 100 _ _ hc.o).mono ?_;rintro e w1 ⟨rfl,hw1⟩;rw[hw1];clear hw1 w1
   go_wp2;go_ret;exact⟨Zp (by rw[←HR.o,goodSt1,hc.o];rfl),rfl⟩
  ·have hc:Zi ((decide (-100≤a) && decide (a≤100))=true):=hb;clear hb;have hd:Zi (r=(Ju b)):=by rw[←HR.o,goodSt1,hc.o];exact Bool.true_and _
   go_enter func71,ntmps71;go_wp2_with fail;refine(Zr a (-100) 100 _ _ hc.o).mono ?_;rintro e w1 ⟨rfl,hw1⟩;rw[hw1];clear hw1 w1
   go_wp2_with fail;refine(Vu b _ _ rfl).mono ?_;rintro e w1 ⟨rfl,hw1⟩;rw[hw1];clear hw1 w1
   rw[←hd.o];go_wp2;go_ret;exact⟨rfl,rfl⟩
 ·rcases hb:(decide (1≤a) && decide (a≤1000))with _|_
  ·have hc:Zi ((decide (1≤a) && decide (a≤1000))=false):=hb;clear hb;go_enter func71,ntmps71;go_wp2_with fail;refine(Zr a 1 1000 _ _ hc.o).mono ?_;rintro e w1 ⟨rfl,hw1⟩;rw[hw1];clear hw1 w1
   go_wp2;go_ret;exact⟨Zp (by rw[←HR.o,goodSt2,hc.o];rfl),rfl⟩
  ·have hc:Zi ((decide (1≤a) && decide (a≤1000))=true):=hb;clear hb;have ha:1≤a∧a≤1000:=by simpa using hc.o
   have hd:Zi (r=(decide (0≤b) && decide (b≤a-1))):=by rw[←HR.o,goodSt2,hc.o];exact Bool.true_and _
   go_enter func71,ntmps71;go_wp2_with fail;refine(Zr a 1 1000 _ _ hc.o).mono ?_;rintro e w1 ⟨rfl,hw1⟩;rw[hw1];clear hw1 w1
   go_wp2_with fail;refine(Zr b 0 (a-1) _ _ rfl).mono ?_;rintro e w1 ⟨rfl,hw1⟩;rw[hw1];clear hw1 w1
   rw[←hd.o];go_wp2;go_ret;exact⟨rfl,rfl⟩
 ·rcases hb:(decide (1≤a) && decide (a≤3))with _|_
  ·have hc:Zi ((decide (1≤a) && decide (a≤3))=false):=hb;clear hb;go_enter func71,ntmps71;go_wp2_with fail;refine(Zr a 1 3 _ _ hc.o).mono ?_;rintro e w1 ⟨rfl,hw1⟩;rw[hw1];clear hw1 w1
   go_wp2;go_ret;exact⟨Zp (by rw[←HR.o,goodSt3,hc.o];rfl),rfl⟩
  ·have hc:Zi ((decide (1≤a) && decide (a≤3))=true):=hb;clear hb;have hd:Zi (r=(decide (-1000≤b) && decide (b≤1000))):=by rw[←HR.o,goodSt3,hc.o];exact Bool.true_and _
   go_enter func71,ntmps71;go_wp2_with fail;refine(Zr a 1 3 _ _ hc.o).mono ?_;rintro e w1 ⟨rfl,hw1⟩;rw[hw1];clear hw1 w1
   go_wp2_with fail;refine(Zr b (-1000) 1000 _ _ rfl).mono ?_;rintro e w1 ⟨rfl,hw1⟩;rw[hw1];clear hw1 w1
   rw[←hd.o];go_wp2;go_ret;exact⟨rfl,rfl⟩
 ·rcases hb:(decide (1≤a) && decide (a≤1000))with _|_
  ·have hc:Zi ((decide (1≤a) && decide (a≤1000))=false):=hb;clear hb;go_enter func71,ntmps71;go_wp2_with fail;refine(Zr a 1 1000 _ _ hc.o).mono ?_;rintro e w1 ⟨rfl,hw1⟩;rw[hw1];clear hw1 w1
   go_wp2;go_ret;exact⟨Zp (by rw[←HR.o,goodSt4,hc.o];rfl),rfl⟩
  ·have hc:Zi ((decide (1≤a) && decide (a≤1000))=true):=hb;clear hb;have ha:1≤a∧a≤1000:=by simpa using hc.o
   have hd:Zi (r=(decide (0≤b) && decide (b≤a-1))):=by rw[←HR.o,goodSt4,hc.o];exact Bool.true_and _
   go_enter func71,ntmps71;go_wp2_with fail;refine(Zr a 1 1000 _ _ hc.o).mono ?_;rintro e w1 ⟨rfl,hw1⟩;rw[hw1];clear hw1 w1
   go_wp2_with fail;refine(Zr b 0 (a-1) _ _ rfl).mono ?_;rintro e w1 ⟨rfl,hw1⟩;rw[hw1];clear hw1 w1
   rw[←hd.o];go_wp2;go_ret;exact⟨rfl,rfl⟩
 ·have k1:(k==1)=false:=by simpa using h1
  have k2:(k==2)=false:=by simpa using h2
  have k3:(k==3)=false:=by simpa using h3
  have k4:(k==4)=false:=by simpa using h4
  have hd:Zi (r=false):=HR.o.symm.trans (goodSt0 h1 h2 h3 h4);clear h1 h2 h3 h4;go_enter func71,ntmps71;go_wp2;go_ret;exact⟨Zp hd.o.symm,rfl⟩
theorem Cf(k a b:Int)(w:World)(r:Bool)(hr:((decide (-100≤a) && decide (a≤100)) && Ju b)=r) :
  Calls prog 144 #[.agg #[.int .i64 k,.int .i64 a,.int .i64 b]] w fun e w'=>e=.returned (.bool r)∧w'=w.alloc (.cells #[.int .i64 k,.int .i64 a,.int .i64 b] 24):=by
 subst hr
 by_cases h1 : -100≤a
 ·by_cases h2:a≤100
  ·have hd:Zi ((decide (-100≤a) && decide (a≤100) && Ju b)=Ju b):=by show _=_;simp[h1,h2]
   rw[hd.o];go_enter func144,ntmps144;go_wp2_with fail;refine(Jv b _ _ rfl).mono ?_;rintro e w1 ⟨rfl,hw1⟩;rw[hw1];clear hw1 w1
   go_wp2;go_ret;exact⟨rfl,rfl⟩
  ·have h2':decide (a≤100)=false:=by simpa using h2
   have hd:Zi ((decide (-100≤a) && decide (a≤100) && Ju b)=false):=by show _=_;simp[h1,h2]
   rw[hd.o];go_enter func144,ntmps144;go_wp2;go_ret;exact⟨rfl,rfl⟩
 ·have h1':decide (-100≤a)=false:=by simpa using h1
  have hd:Zi ((decide (-100≤a) && decide (a≤100) && Ju b)=false):=by show _=_;simp[h1]
  rw[hd.o];go_enter func144,ntmps144;go_wp2;go_ret;exact⟨rfl,rfl⟩
theorem Uj(k a b:Int)(w:World)(r:Bool)(hr:((decide (1≤a) && decide (a≤1000)) && (decide (0≤b) && decide (b≤a-1)))=r) :
  Calls prog 147 #[.agg #[.int .i64 k,.int .i64 a,.int .i64 b]] w fun e w'=>e=.returned (.bool r)∧w'=w.alloc (.cells #[.int .i64 k,.int .i64 a,.int .i64 b] 24):=by
 subst hr
 by_cases h0:1≤a
 ·skip
  by_cases h1:a≤1000
  ·skip
   by_cases h2:0≤b
   ·skip
    by_cases h3:b<a
    ·skip
     have hd:Zi (((decide (1≤a) && decide (a≤1000)) && (decide (0≤b) && decide (b≤a-1)))=true):=by show _=_;simp;omega
     rw[hd.o];go_enter func147,ntmps147;go_wp2;go_ret;exact⟨rfl,rfl⟩
    ·have hn:decide (b<a)=false:=by simpa using h3
     have hd:Zi (((decide (1≤a) && decide (a≤1000)) && (decide (0≤b) && decide (b≤a-1)))=false):=by show _=_;rcases hx:((decide (1≤a) && decide (a≤1000)) && (decide (0≤b) && decide (b≤a-1)))with _|_ <;> simp at hx <;> first|rfl|omega
     rw[hd.o];go_enter func147,ntmps147;go_wp2;go_ret;exact⟨rfl,rfl⟩
   ·have hn:decide (0≤b)=false:=by simpa using h2
    have hd:Zi (((decide (1≤a) && decide (a≤1000)) && (decide (0≤b) && decide (b≤a-1)))=false):=by show _=_;rcases hx:((decide (1≤a) && decide (a≤1000)) && (decide (0≤b) && decide (b≤a-1)))with _|_ <;> simp at hx <;> first|rfl|omega
    rw[hd.o];go_enter func147,ntmps147;go_wp2;go_ret;exact⟨rfl,rfl⟩
  ·have hn:decide (a≤1000)=false:=by simpa using h1
   have hd:Zi (((decide (1≤a) && decide (a≤1000)) && (decide (0≤b) && decide (b≤a-1)))=false):=by show _=_;rcases hx:((decide (1≤a) && decide (a≤1000)) && (decide (0≤b) && decide (b≤a-1)))with _|_ <;> simp at hx <;> first|rfl|omega
   rw[hd.o];go_enter func147,ntmps147;go_wp2;go_ret;exact⟨rfl,rfl⟩
 ·have hn:decide (1≤a)=false:=by simpa using h0
  have hd:Zi (((decide (1≤a) && decide (a≤1000)) && (decide (0≤b) && decide (b≤a-1)))=false):=by show _=_;rcases hx:((decide (1≤a) && decide (a≤1000)) && (decide (0≤b) && decide (b≤a-1)))with _|_ <;> simp at hx <;> first|rfl|omega
  rw[hd.o];go_enter func147,ntmps147;go_wp2;go_ret;exact⟨rfl,rfl⟩
theorem Rg(k a b:Int)(w:World)(r:Bool)(hr:((decide (1≤a) && decide (a≤3)) && (decide (-1000≤b) && decide (b≤1000)))=r) :
  Calls prog 149 #[.agg #[.int .i64 k,.int .i64 a,.int .i64 b]] w fun e w'=>e=.returned (.bool r)∧w'=w.alloc (.cells #[.int .i64 k,.int .i64 a,.int .i64 b] 24):=by
 subst hr
 by_cases h0:1≤a
 ·skip
  by_cases h1:a≤3
  ·skip
   by_cases h2 : -1000≤b
   ·skip
    by_cases h3:b≤1000
    ·skip
     have hd:Zi (((decide (1≤a) && decide (a≤3)) && (decide (-1000≤b) && decide (b≤1000)))=true):=by show _=_;simp;omega
     rw[hd.o];go_enter func149,ntmps149;go_wp2;go_ret;exact⟨rfl,rfl⟩
    ·have hn:decide (b≤1000)=false:=by simpa using h3
     have hd:Zi (((decide (1≤a) && decide (a≤3)) && (decide (-1000≤b) && decide (b≤1000)))=false):=by show _=_;rcases hx:((decide (1≤a) && decide (a≤3)) && (decide (-1000≤b) && decide (b≤1000)))with _|_ <;> simp at hx <;> first|rfl|omega
     rw[hd.o];go_enter func149,ntmps149;go_wp2;go_ret;exact⟨rfl,rfl⟩
   ·have hn:decide (-1000≤b)=false:=by simpa using h2
    have hd:Zi (((decide (1≤a) && decide (a≤3)) && (decide (-1000≤b) && decide (b≤1000)))=false):=by show _=_;rcases hx:((decide (1≤a) && decide (a≤3)) && (decide (-1000≤b) && decide (b≤1000)))with _|_ <;> simp at hx <;> first|rfl|omega
    rw[hd.o];go_enter func149,ntmps149;go_wp2;go_ret;exact⟨rfl,rfl⟩
  ·have hn:decide (a≤3)=false:=by simpa using h1
   have hd:Zi (((decide (1≤a) && decide (a≤3)) && (decide (-1000≤b) && decide (b≤1000)))=false):=by show _=_;rcases hx:((decide (1≤a) && decide (a≤3)) && (decide (-1000≤b) && decide (b≤1000)))with _|_ <;> simp at hx <;> first|rfl|omega
   rw[hd.o];go_enter func149,ntmps149;go_wp2;go_ret;exact⟨rfl,rfl⟩
 ·have hn:decide (1≤a)=false:=by simpa using h0
  have hd:Zi (((decide (1≤a) && decide (a≤3)) && (decide (-1000≤b) && decide (b≤1000)))=false):=by show _=_;rcases hx:((decide (1≤a) && decide (a≤3)) && (decide (-1000≤b) && decide (b≤1000)))with _|_ <;> simp at hx <;> first|rfl|omega
  rw[hd.o];go_enter func149,ntmps149;go_wp2;go_ret;exact⟨rfl,rfl⟩
theorem Cd(a b:Int)(w:World) :
  Calls prog 114 #[.agg #[.int .i64 1,.int .i64 a,.int .i64 b]] w fun e w'=>e=.returned (.tuple #[.agg #[.func (.func 144) #[] #[],.func (.func 145) #[] #[],.func (.func 146) #[] #[]],.bool true])∧Below w.1.size w w':=by
 go_enter func114,ntmps114;go_wp2;exact bodyPost_ret (v:=.tuple #[.agg #[.func (.func 144) #[] #[],.func (.func 145) #[] #[],.func (.func 146) #[] #[]],.bool true]) (by simp[results,results114,go_sem]) rfl ⟨rfl,Qf _ _ _⟩
theorem Cc(a b:Int)(w:World) :
  Calls prog 114 #[.agg #[.int .i64 2,.int .i64 a,.int .i64 b]] w fun e w'=>e=.returned (.tuple #[.agg #[.func (.func 147) #[] #[],.func (.func 148) #[] #[],.func (.func 146) #[] #[]],.bool true])∧Below w.1.size w w':=by
 go_enter func114,ntmps114;go_wp2;exact bodyPost_ret (v:=.tuple #[.agg #[.func (.func 147) #[] #[],.func (.func 148) #[] #[],.func (.func 146) #[] #[]],.bool true]) (by simp[results,results114,go_sem]) rfl ⟨rfl,Qf _ _ _⟩
theorem Cb(a b:Int)(w:World) :
  Calls prog 114 #[.agg #[.int .i64 3,.int .i64 a,.int .i64 b]] w fun e w'=>e=.returned (.tuple #[.agg #[.func (.func 149) #[] #[],.func (.func 150) #[] #[],.func (.func 151) #[] #[]],.bool true])∧Below w.1.size w w':=by
 go_enter func114,ntmps114;go_wp2;exact bodyPost_ret (v:=.tuple #[.agg #[.func (.func 149) #[] #[],.func (.func 150) #[] #[],.func (.func 151) #[] #[]],.bool true]) (by simp[results,results114,go_sem]) rfl ⟨rfl,Qf _ _ _⟩
theorem Ca(a b:Int)(w:World) :
  Calls prog 114 #[.agg #[.int .i64 4,.int .i64 a,.int .i64 b]] w fun e w'=>e=.returned (.tuple #[.agg #[.func (.func 147) #[] #[],.func (.func 152) #[] #[],.func (.func 146) #[] #[]],.bool true])∧Below w.1.size w w':=by
 go_enter func114,ntmps114;go_wp2;exact bodyPost_ret (v:=.tuple #[.agg #[.func (.func 147) #[] #[],.func (.func 152) #[] #[],.func (.func 146) #[] #[]],.bool true]) (by simp[results,results114,go_sem]) rfl ⟨rfl,Qf _ _ _⟩
theorem kindOf0_is(k a b:Int)(w:World)(h1:k≠1)(h2:k≠2)(h3:k≠3)(h4:k≠4) :
  Calls prog 114 #[.agg #[.int .i64 k,.int .i64 a,.int .i64 b]] w fun e w'=>e=.returned (.tuple #[.agg #[.nilFunc,.nilFunc,.nilFunc],.bool false])∧Below w.1.size w w':=by
 have k1:(k==1)=false:=by simpa using h1
 have k2:(k==2)=false:=by simpa using h2
 have k3:(k==3)=false:=by simpa using h3
 have k4:(k==4)=false:=by simpa using h4
 clear h1 h2 h3 h4;go_enter func114,ntmps114;go_wp2;exact bodyPost_ret (v:=.tuple #[.agg #[.nilFunc,.nilFunc,.nilFunc],.bool false]) (by simp[results,results114,go_sem]) rfl ⟨rfl,Qf _ _ _⟩
end Go.Proofs.YtdacedbfnlkghaaGreatDoor