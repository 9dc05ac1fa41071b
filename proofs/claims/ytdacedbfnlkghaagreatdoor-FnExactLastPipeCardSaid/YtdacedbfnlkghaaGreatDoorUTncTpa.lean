/- The text of a node: the program's. The text of a node: the specification's. Texts cut at a mark, and numbers read: plainly. No conditions but those written. -/
import Derived.Test.YtdacedbfnlkghaaGreatDoorUXkTnb
import Derived.Lib.AtoiAll
import Derived.Laws.RangeAny
namespace Go.Proofs.YtdacedbfnlkghaaGreatDoor
set_option maxHeartbeats 8000000
set_option maxRecDepth 10000
open Go.RowKit Go.Proofs.Tryz
def Qs(k:Int):ByteArray:=if k=1 then⟨#[109,97,112]⟩else if k=2 then⟨#[102,105,108,116,101,114]⟩else if k=3 then⟨#[101,120,112,97,110,100]⟩else if k=4 then⟨#[112,111,105,115,111,110]⟩else⟨#[]⟩
theorem wordB_size(k:Int):(Qs k).size≤6:=by
 unfold Qs
 split
 ·decide
 ·split
  ·decide
  ·split
   ·decide
   ·split <;> decide
structure Wds(w:World):Prop where
 lt:0<w.1.size
 cell:∀j:Nat,j<5→w.cell? ⟨0,j,none⟩=some (.string (Qs (j:Int)))
theorem Wds.below{n:Nat}{w w':World}(h:Wds w)(hb:Below n w w')(hn:0<n):Wds w' :=
 ⟨Nat.lt_of_lt_of_le h.lt hb.size,fun j hj=>(hb.cell (p:=⟨0,j,none⟩) hn).trans (h.cell j hj)⟩
theorem Wds.later{w w':World}(h:Wds w)(hb:Below w.1.size w w'):Wds w':=h.below hb h.lt
def Hk(kd sa sb:Int):ByteArray:=(Qs kd++⟨#[58]⟩)++Qm ⟨#[58]⟩ [sa,sb]
def In64(x:Int):Prop := -9223372036854775808≤x∧x≤9223372036854775807
theorem joinB_size(xs:List ByteArray)(sep:ByteArray)(c:Nat)(h:∀x∈xs,x.size≤c):(Wv xs sep).size≤(xs.length+1)*(sep.size+c):=by
 have:=join_len sep.data.toList c (xs.map (·.data.toList)) fun x hx=>by
  obtain⟨z,hz,rfl⟩:=List.mem_map.1 hx;have:=h z hz;rw[Array.length_toList];exact this
 rw[List.length_map,Array.length_toList]at this
 show(Lib.join (xs.map (·.data.toList)) sep.data.toList).toArray.size≤_
 rw[List.size_toArray];exact this
def Gk(nm:ByteArray)(kd sa sb cp:Int)(nx:List Int):ByteArray:=Wv [⟨#[110,111,100,101]⟩,nm,Hk kd sa sb,tx (Lib.itoa cp),Rx nx] ⟨#[32]⟩
structure HasT(nm:ByteArray)(kd sa sb cp:Int)(nx:List Int):Prop where
 nam:nm.size≤12
 kin:∃j:Nat,1≤j∧j<5∧kd=(j:Int)
 i1:In64 sa
 i2:In64 sb
 i3:0≤cp∧cp≤9999999
 len:nx.length≤20
 nxs:∀x∈nx,0≤x∧x≤9999999
theorem farB_no{x:Int}(h:Fx x=false):0≤x∧x≤9999999:=by simp[Fx]at h;omega
theorem Lv{nm:ByteArray}{kd sa sb cp:Int}{nx:List Int}(h:hasT nm kd sa sb cp nx=true):HasT nm kd sa sb cp nx:=by
 simp only[hasT,Bool.and_eq_true,Bool.not_eq_true',decide_eq_true_eq]at h;obtain⟨h1,h2,h3,h4,h5⟩:=h;refine⟨?_,?_,?_,?_,farB_no h3,h4,fun x hx=>?_⟩
 ·rcases Nat.lt_or_ge 12 nm.size with h|h
  ·rw[Nq (.inr h)]at h1;cases h1
  ·exact h
 ·rcases Xe h2 with rfl|rfl|rfl|rfl
  ·exact⟨1,by omega,by omega,rfl⟩
  ·exact⟨2,by omega,by omega,rfl⟩
  ·exact⟨3,by omega,by omega,rfl⟩
  ·exact⟨4,by omega,by omega,rfl⟩
 ·rcases Xe h2 with rfl|rfl|rfl|rfl
  ·have:=good1 h2;exact⟨by omega,by omega⟩
  ·have:=good2 h2;exact⟨by omega,by omega⟩
  ·have:=good3 h2;exact⟨by omega,by omega⟩
  ·have:=good4 h2;exact⟨by omega,by omega⟩
 ·rcases Xe h2 with rfl|rfl|rfl|rfl
  ·have:=good1 h2;exact⟨by omega,by omega⟩
  ·have:=good2 h2;exact⟨by omega,by omega⟩
  ·have:=good3 h2;exact⟨by omega,by omega⟩
  ·have:=good4 h2;exact⟨by omega,by omega⟩
 ·refine farB_no ?_;rw[List.any_eq_false]at h5
  simpa using h5 x hx
theorem HasT.i64{nm:ByteArray}{kd sa sb cp:Int}{nx:List Int}(h:HasT nm kd sa sb cp nx):Xi nx:=fun x hx=>by have:=h.nxs x hx;omega
theorem nextT_size{nx:List Int}(h:nx.length≤20)(h6:Xi nx):(Rx nx).size≤462:=by
 unfold Rx
 split
 ·decide
 ·have:=Td h6 ⟨#[44]⟩;have e:(⟨#[44]⟩:ByteArray).size=1:=rfl;rw[e]at this;have h2:(nx.length+1)*22≤21*22:=Nat.mul_le_mul_right _ (by omega)
  omega
theorem Hd{a b:ByteArray}(h:a.data.toList=b.data.toList):a=b:=by
 apply ByteArray.ext
 exact Array.toList_inj.1 h
theorem ba_app(a b:ByteArray):(a++b).data.toList=a.data.toList++b.data.toList:=by simp[ByteArray.data_append]
theorem Xx(xs:List ByteArray)(sep:ByteArray):(Wv xs sep).data.toList=Lib.join (xs.map (·.data.toList)) sep.data.toList:=by simp[Wv]
theorem Gd(x sep:ByteArray):Wv [x] sep=x:=by
 apply Hd
 rw[Xx,List.map_singleton,Lib.join_one]
theorem joinTail_app(sep:List UInt8)(r s:List (List UInt8)):Lib.joinTail sep (r++s)=Lib.joinTail sep r++Lib.joinTail sep s:=by simp[Lib.joinTail]
theorem Xk{xs:List ByteArray}(h:0<xs.length)(y sep:ByteArray):Wv (xs++[y]) sep=Wv xs sep++(sep++y):=by
 apply Hd
 cases xs with
 |nil=>simp at h
 |cons x r =>
  rw[ba_app,ba_app,Xx,Xx,List.cons_append,List.map_cons,List.map_cons,Lib.join_cons,Lib.join_cons,List.map_append,joinTail_app,List.append_assoc]
  simp[Lib.joinTail]
theorem numsT_one{l:List Int}(h:0<l.length)(sep:ByteArray):Qm sep (l.take 1)=tx (Lib.itoa (el l 0)):=by
 rw[Qm,show(1:Nat)=0+1 from rfl,Tg h];exact Gd _ _
theorem numsT_succ{l:List Int}{k:Nat}(h0:0<k)(h:k<l.length)(sep:ByteArray):Qm sep (l.take (k+1))=Qm sep (l.take k)++(sep++tx (Lib.itoa (el l k))):=by
 rw[Qm,Tg h,Xk (by rw[Gj,List.length_take];omega)];rfl
theorem Mp(w:World):Calls prog 74 #[] w fun e w'=>∃q,e=.returned (.slice (some ⟨q,0,none⟩) 5 5)∧(q<w'.1.size∧w.1.size≤q∧∀j:Nat,j<5→w'.cell? ⟨q,j,none⟩=some (.string (Qs (j:Int))))∧Below w.1.size w w':=by
 go_enter func74,ntmps74;go_wp2;go_ret;refine⟨_,rfl,?_,Zk _ _⟩;have X:=Bx.new (w:=w) [.string ⟨#[]⟩,.string ⟨#[109,97,112]⟩,.string ⟨#[102,105,108,116,101,114]⟩,.string ⟨#[101,120,112,97,110,100]⟩,.string ⟨#[112,111,105,115,111,110]⟩] 9 rfl;refine⟨X.size,Nat.le_refl _,fun j hj=>?_⟩
 rcases(show j=0∨j=1∨j=2∨j=3∨j=4 from by omega)with rfl|rfl|rfl|rfl|rfl
 ·exact X.c 0 rfl
 ·exact X.c 1 rfl
 ·exact X.c 2 rfl
 ·exact X.c 3 rfl
 ·exact X.c 4 rfl
theorem nodeB_sum(nm:ByteArray)(kd sa sb cp:Int)(nx:List Int) :
  Gk nm kd sa sb cp nx=(((((((((((⟨#[110,111,100,101,32]⟩++nm)++⟨#[32]⟩)++Qs kd)++⟨#[58]⟩)++tx (Lib.itoa sa))++⟨#[58]⟩)++tx (Lib.itoa sb))++⟨#[32]⟩)++tx (Lib.itoa cp))++⟨#[32]⟩)++Rx nx):=by
 apply Hd
 simp only[Gk,Hk,Qm,Yx,ba_app,Xx,List.map_cons,List.map_nil,Lib.join_cons,Lib.joinTail,List.flatten_cons,List.flatten_nil,List.append_nil,List.append_assoc]
 simp
def Th(nx:List Int)(k:Nat):ByteArray:=if k=0 then⟨#[45]⟩else Qm ⟨#[44]⟩ (nx.take k)
theorem nextK_all(nx:List Int):Th nx nx.length=Rx nx:=by rw[Th,Rx,List.take_length]
theorem nextK_size{nx:List Int}(h:nx.length≤20)(h6:Xi nx)(k:Nat)(hk:k≤nx.length):(Th nx k).size≤462:=by
 by_cases h0:k=0
 ·rw[Th,if_pos h0];decide
 ·have hl:(nx.take k).length=k:=by rw[List.length_take];omega
  have:=nextT_size (nx:=nx.take k) (by omega) fun x hx=>h6 x (List.mem_of_mem_take hx)
  rw[Rx,if_neg (by omega)]at this;rw[Th,if_neg h0];exact this
theorem Ck(nm:ByteArray)(kd sa sb cp:Int)(nxo:Option Addr)(nxc:Nat)(nx:List Int)(w:World)(hH:HasT nm kd sa sb cp nx)(hz:InNode w.1.size w nxo nx) :
  Calls prog 33 #[.agg #[.string nm,.int .i64 kd,.int .i64 sa,.int .i64 sb,.int .i64 cp,.slice nxo nx.length nxc]] w fun e w'=>e=.returned (.string (Gk nm kd sa sb cp nx))∧Below w.1.size w w':=by
 obtain⟨j,hj1,hj5,hkd⟩:=hH.kin;subst hkd;have h3:=hH.i3;have hlen:=hH.len;have hnm:=hH.nam;have HK:=Zd (fun k (hk:k≤nx.length)=>nextK_size hH.len hH.i64 k hk);have H64:=Zd hH.i64;have hi1:=hH.i1;have hi2:=hH.i2;have hB0:=Zk w (.cells #[.string nm,.int .i64 (j:Int),.int .i64 sa,.int .i64 sb,.int .i64 cp,.slice nxo nx.length nxc] 27);have X0:=Zd (Bx.new (w:=w) [.string nm,.int .i64 (j:Int),.int .i64 sa,.int .i64 sb,.int .i64 cp,.slice nxo nx.length nxc] 27 rfl);obtain⟨V,hV⟩:=nmd (w.alloc (.cells #[.string nm,.int .i64 (j:Int),.int .i64 sa,.int .i64 sb,.int .i64 cp,.slice nxo nx.length nxc] 27));have HZ:=Zd (Kind.In.later hz hB0);rw[←hV]at hB0 X0 HZ;have x5:=X0.o.c 5 rfl;have hxs:=X0.o.size;clear hH hz;go_enter func33,ntmps33;go_wp2;rw[←hV];clear hV
 go_loopw [3,9] (fun u i wr=>∃k:Nat,k≤nx.length∧u=.string (Th nx k)∧i=.int .i64 (k:Int)∧Below V.1.size V wr) (fun _ i _=>nx.length-(intOf i).toNat)
 case atStart=>exact⟨0,Nat.zero_le _,rfl,rfl,Below.refl _ _⟩
 case round =>
  obtain⟨k,hk,rfl,rfl,hB⟩:=hrel
  by_cases hlt:k<nx.length
  ·obtain⟨b,off,rfl,hb,hc⟩:=Zo HZ.o hlt;have d1:=(hB.cell (p:=⟨b,off+k,none⟩) hb).trans (hc k hlt);have h6:=H64.o _ (Zl hlt);have hit:=Jg (el nx k) h6.1 h6.2 wr;have hts:(tx (Lib.itoa (el nx k))).size≤21:=by rw[Ki];exact Qx _ h6.1 h6.2
   have hks:=HK.o k hk
   by_cases h0:k=0
   ·have h0':((k:Int)==0)=true:=by simp[h0]
    have HN:Zi (Th nx (k+1)=tx (Lib.itoa (el nx k))):=by
     rw[Zi,Th,if_neg (by omega),h0];exact numsT_one (by omega) _
    generalize tx (Lib.itoa (el nx k))=t at hit HN hts
    generalize el nx k=x at d1 hit
    have HIT:=Zd hit;clear hit hc h6 h0;go_wp2_with fail;refine HIT.o.mono ?_;rintro e w1 ⟨rfl,hb1⟩;have hB1:=hB.trans (hb1.mono hB.size);go_wp2;go_roundw
    case rel=>exact⟨k+1,by omega,by rw[HN.o],by go_num,hB1⟩
    case measure=>simp[intOf];omega
   ·have h0':((k:Int)==0)=false:=by simp[h0]
    have HN:Zi (Th nx (k+1)=Th nx k++(⟨#[44]⟩++tx (Lib.itoa (el nx k)))):=by
     rw[Zi,Th,Th,if_neg (by omega),if_neg h0];exact numsT_succ (by omega) hlt _
    generalize tx (Lib.itoa (el nx k))=t at hit HN hts
    generalize el nx k=x at d1 hit
    have HIT:=Zd hit;clear hit hc h6 h0
    generalize Th nx k=s at hks HN
    go_wp2_with fail;refine HIT.o.mono ?_;rintro e w1 ⟨rfl,hb1⟩;have hB1:=hB.trans (hb1.mono hB.size);go_wp2;go_roundw
    case rel=>exact⟨k+1,by omega,by rw[HN.o],by go_num,hB1⟩
    case measure=>simp[intOf];omega
  ·obtain rfl:k=nx.length:=by omega
   have hks:=HK.o _ hk;have HR:=Zd (nodeB_sum nm (j:Int) sa sb cp nx);rw[nextK_all]at hks ⊢;have hws:=wordB_size (j:Int);have HN1:=Zd (fun W=>Jg sa hi1.1 hi1.2 W);have HN2:=Zd (fun W=>Jg sb hi2.1 hi2.2 W);have HN3:=Zd (fun W=>Jg cp (by omega) (by omega) W);have s1:(tx (Lib.itoa sa)).size≤21:=by rw[Ki];exact Qx _ hi1.1 hi1.2
   have s2:(tx (Lib.itoa sb)).size≤21:=by rw[Ki];exact Qx _ hi2.1 hi2.2
   have s3:(tx (Lib.itoa cp)).size≤21:=by rw[Ki];exact Qx _ (by omega) (by omega)
   generalize Rx nx=t0 at hks HR ⊢
   generalize tx (Lib.itoa sa)=t1 at HN1 s1 HR
   generalize tx (Lib.itoa sb)=t2 at HN2 s2 HR
   generalize tx (Lib.itoa cp)=t3 at HN3 s3 HR
   have X1:=Zd (X0.o.later hB);have hB1:=hB0.trans (hB.mono hB0.size);have hi0:(0:Int)≤(j:Int):=by omega
   have hi5:(j:Int)<5:=by omega
   clear x5 hB HZ HK H64 X0 hB0;have HKD:=Zd Mp;have HWE:Zi (∀(W:World)(q:Nat),(∀i:Nat,i<5→W.cell? ⟨q,i,none⟩=some (.string (Qs (i:Int))))→W.cell? ⟨q,j,none⟩=some (.string (Qs (j:Int)))):=fun W q h=>h j hj5
   generalize Qs (j:Int)=wd at hws HR HWE
   have z5:(⟨#[110,111,100,101,32]⟩:ByteArray).size=5:=rfl;have z32:(⟨#[32]⟩:ByteArray).size=1:=rfl;have z58:(⟨#[58]⟩:ByteArray).size=1:=rfl;have hc0:∀W,(Op.stringOp .add (⟨#[110,111,100,101,32]⟩:ByteArray) nm).run prog W=.ok (.string ((⟨#[110,111,100,101,32]⟩:ByteArray)++nm)) W:=fun W=>run_string_add_sum W _ _ (by first|omega|(repeat rw[ByteArray.size_append]) <;> omega)
   have hc1:∀W,(Op.stringOp .add ((⟨#[110,111,100,101,32]⟩:ByteArray)++nm) ⟨#[32]⟩).run prog W=.ok (.string (((⟨#[110,111,100,101,32]⟩:ByteArray)++nm)++⟨#[32]⟩)) W:=fun W=>run_string_add_sum W _ _ (by first|omega|(repeat rw[ByteArray.size_append]) <;> omega)
   have hc2:∀W,(Op.stringOp .add (((⟨#[110,111,100,101,32]⟩:ByteArray)++nm)++⟨#[32]⟩) wd).run prog W=.ok (.string ((((⟨#[110,111,100,101,32]⟩:ByteArray)++nm)++⟨#[32]⟩)++wd)) W:=fun W=>run_string_add_sum W _ _ (by first|omega|(repeat rw[ByteArray.size_append]) <;> omega)
   have hc3:∀W,(Op.stringOp .add ((((⟨#[110,111,100,101,32]⟩:ByteArray)++nm)++⟨#[32]⟩)++wd) ⟨#[58]⟩).run prog W=.ok (.string (((((⟨#[110,111,100,101,32]⟩:ByteArray)++nm)++⟨#[32]⟩)++wd)++⟨#[58]⟩)) W:=fun W=>run_string_add_sum W _ _ (by first|omega|(repeat rw[ByteArray.size_append]) <;> omega)
   have hc4:∀W,(Op.stringOp .add (((((⟨#[110,111,100,101,32]⟩:ByteArray)++nm)++⟨#[32]⟩)++wd)++⟨#[58]⟩) t1).run prog W=.ok (.string ((((((⟨#[110,111,100,101,32]⟩:ByteArray)++nm)++⟨#[32]⟩)++wd)++⟨#[58]⟩)++t1)) W:=fun W=>run_string_add_sum W _ _ (by first|omega|(repeat rw[ByteArray.size_append]) <;> omega)
   have hc5:∀W,(Op.stringOp .add ((((((⟨#[110,111,100,101,32]⟩:ByteArray)++nm)++⟨#[32]⟩)++wd)++⟨#[58]⟩)++t1) ⟨#[58]⟩).run prog W=.ok (.string (((((((⟨#[110,111,100,101,32]⟩:ByteArray)++nm)++⟨#[32]⟩)++wd)++⟨#[58]⟩)++t1)++⟨#[58]⟩)) W:=fun W=>run_string_add_sum W _ _ (by first|omega|(repeat rw[ByteArray.size_append]) <;> omega)
   have hc6:∀W,(Op.stringOp .add (((((((⟨#[110,111,100,101,32]⟩:ByteArray)++nm)++⟨#[32]⟩)++wd)++⟨#[58]⟩)++t1)++⟨#[58]⟩) t2).run prog W=.ok (.string ((((((((⟨#[110,111,100,101,32]⟩:ByteArray)++nm)++⟨#[32]⟩)++wd)++⟨#[58]⟩)++t1)++⟨#[58]⟩)++t2)) W:=fun W=>run_string_add_sum W _ _ (by first|omega|(repeat rw[ByteArray.size_append]) <;> omega)
   have hc7:∀W,(Op.stringOp .add ((((((((⟨#[110,111,100,101,32]⟩:ByteArray)++nm)++⟨#[32]⟩)++wd)++⟨#[58]⟩)++t1)++⟨#[58]⟩)++t2) ⟨#[32]⟩).run prog W=.ok (.string (((((((((⟨#[110,111,100,101,32]⟩:ByteArray)++nm)++⟨#[32]⟩)++wd)++⟨#[58]⟩)++t1)++⟨#[58]⟩)++t2)++⟨#[32]⟩)) W:=fun W=>run_string_add_sum W _ _ (by first|omega|(repeat rw[ByteArray.size_append]) <;> omega)
   have hc8:∀W,(Op.stringOp .add (((((((((⟨#[110,111,100,101,32]⟩:ByteArray)++nm)++⟨#[32]⟩)++wd)++⟨#[58]⟩)++t1)++⟨#[58]⟩)++t2)++⟨#[32]⟩) t3).run prog W=.ok (.string ((((((((((⟨#[110,111,100,101,32]⟩:ByteArray)++nm)++⟨#[32]⟩)++wd)++⟨#[58]⟩)++t1)++⟨#[58]⟩)++t2)++⟨#[32]⟩)++t3)) W:=fun W=>run_string_add_sum W _ _ (by first|omega|(repeat rw[ByteArray.size_append]) <;> omega)
   have hc9:∀W,(Op.stringOp .add ((((((((((⟨#[110,111,100,101,32]⟩:ByteArray)++nm)++⟨#[32]⟩)++wd)++⟨#[58]⟩)++t1)++⟨#[58]⟩)++t2)++⟨#[32]⟩)++t3) ⟨#[32]⟩).run prog W=.ok (.string (((((((((((⟨#[110,111,100,101,32]⟩:ByteArray)++nm)++⟨#[32]⟩)++wd)++⟨#[58]⟩)++t1)++⟨#[58]⟩)++t2)++⟨#[32]⟩)++t3)++⟨#[32]⟩)) W:=fun W=>run_string_add_sum W _ _ (by first|omega|(repeat rw[ByteArray.size_append]) <;> omega)
   have hc10:∀W,(Op.stringOp .add (((((((((((⟨#[110,111,100,101,32]⟩:ByteArray)++nm)++⟨#[32]⟩)++wd)++⟨#[58]⟩)++t1)++⟨#[58]⟩)++t2)++⟨#[32]⟩)++t3)++⟨#[32]⟩) t0).run prog W=.ok (.string ((((((((((((⟨#[110,111,100,101,32]⟩:ByteArray)++nm)++⟨#[32]⟩)++wd)++⟨#[58]⟩)++t1)++⟨#[58]⟩)++t2)++⟨#[32]⟩)++t3)++⟨#[32]⟩)++t0)) W:=fun W=>run_string_add_sum W _ _ (by first|omega|(repeat rw[ByteArray.size_append]) <;> omega)
   clear z5 z32 z58;have hB1d:=hB1.drew;go_wp2;refine Qq (zl:=[]) (S:=fun Y=>Y.cell? ⟨w.1.size,0,none⟩=some (.string nm)∧Y.cell? ⟨w.1.size,1,none⟩=some (.int .i64 (j:Int))∧Y.cell? ⟨w.1.size,2,none⟩=some (.int .i64 sa)∧Y.cell? ⟨w.1.size,3,none⟩=some (.int .i64 sb)∧Y.cell? ⟨w.1.size,4,none⟩=some (.int .i64 cp)) (by kernel_rfl) ⟨X1.o.drew.c 0 rfl,X1.o.drew.c 1 rfl,X1.o.drew.c 2 rfl,X1.o.drew.c 3 rfl,X1.o.drew.c 4 rfl⟩ (fun hH=>?_);refine Zq 0 hH ?_;refine Zq 1 hH ?_;refine Zq 2 hH ?_;refine Zq 3 hH ?_;refine Zq 5 hH ?_;refine Zq 6 hH ?_;refine Zq 7 hH ?_;refine Zq 12 hH ?_;refine Zq 13 hH ?_;refine Zq 14 hH ?_;refine Zq 18 hH ?_;refine Zq 19 hH ?_;refine Zq 20 hH ?_;refine Zq 24 hH ?_;refine Zq 25 hH ?_;refine Zq 29 hH ?_;refine Walks.on 4 fun K hK=>?_
   go_simp;refine(HKD.o _).mono ?_;rintro e w2 ⟨q,rfl,⟨hq2,hq0,hqc⟩,hb2⟩;have hB2:=hB1d.trans (hb2.mono hB1d.size);have X2:=Zd (X1.o.drew.later hb2);have K2:w2.cell? ⟨q,j,none⟩=some (.string wd):=HWE.o w2 q hqc;have hH2:(w2.cell? ⟨w.1.size,0,none⟩=some (.string nm)∧w2.cell? ⟨w.1.size,1,none⟩=some (.int .i64 (j:Int))∧w2.cell? ⟨w.1.size,2,none⟩=some (.int .i64 sa)∧w2.cell? ⟨w.1.size,3,none⟩=some (.int .i64 sb)∧w2.cell? ⟨w.1.size,4,none⟩=some (.int .i64 cp))∧w2.cell? ⟨q,j,none⟩=some (.string wd):=⟨⟨X2.o.c 0 rfl,X2.o.c 1 rfl,X2.o.c 2 rfl,X2.o.c 3 rfl,X2.o.c 4 rfl⟩,K2⟩;clear hb2 hqc hq0;refine hK.out _ _ (fun _=>hH2.1) (fun _=>?_);clear hK K;refine Walks.weaken (S':=fun Y=>(Y.cell? ⟨w.1.size,0,none⟩=some (.string nm)∧Y.cell? ⟨w.1.size,1,none⟩=some (.int .i64 (j:Int))∧Y.cell? ⟨w.1.size,2,none⟩=some (.int .i64 sa)∧Y.cell? ⟨w.1.size,3,none⟩=some (.int .i64 sb)∧Y.cell? ⟨w.1.size,4,none⟩=some (.int .i64 cp))∧Y.cell? ⟨q,j,none⟩=some (.string wd)) (fun _ h=>h.1) ?_;refine Zq 8 hH2 ?_;refine Zq 9 hH2 ?_;refine Zq 10 hH2 ?_;refine Zq 11 hH2 ?_;refine Walks.on 15 fun K hK=>?_
   go_simp;refine(HN1.o _).mono ?_;rintro e w3 ⟨rfl,hb3⟩;have hB3:=hB2.trans (hb3.mono hB2.size);have X3:=Zd (X2.o.later hb3);have K3:w3.cell? ⟨q,j,none⟩=some (.string wd):=(hb3.cell (p:=⟨q,j,none⟩) (by dsimp only;omega)).trans K2;have hq3:q<w3.1.size:=(by have:=hb3.size;omega);have hH3:(w3.cell? ⟨w.1.size,0,none⟩=some (.string nm)∧w3.cell? ⟨w.1.size,1,none⟩=some (.int .i64 (j:Int))∧w3.cell? ⟨w.1.size,2,none⟩=some (.int .i64 sa)∧w3.cell? ⟨w.1.size,3,none⟩=some (.int .i64 sb)∧w3.cell? ⟨w.1.size,4,none⟩=some (.int .i64 cp))∧w3.cell? ⟨q,j,none⟩=some (.string wd):=⟨⟨X3.o.c 0 rfl,X3.o.c 1 rfl,X3.o.c 2 rfl,X3.o.c 3 rfl,X3.o.c 4 rfl⟩,K3⟩;clear hb3;refine hK.out _ _ (fun _=>hH3) (fun _=>?_);clear hK K;refine Zq 16 hH3 ?_;refine Zq 17 hH3 ?_;refine Walks.on 21 fun K hK=>?_
   go_simp;refine(HN2.o _).mono ?_;rintro e w4 ⟨rfl,hb4⟩;have hB4:=hB3.trans (hb4.mono hB3.size);have X4:=Zd (X3.o.later hb4);have K4:w4.cell? ⟨q,j,none⟩=some (.string wd):=(hb4.cell (p:=⟨q,j,none⟩) (by dsimp only;omega)).trans K3;have hq4:q<w4.1.size:=(by have:=hb4.size;omega);have hH4:(w4.cell? ⟨w.1.size,0,none⟩=some (.string nm)∧w4.cell? ⟨w.1.size,1,none⟩=some (.int .i64 (j:Int))∧w4.cell? ⟨w.1.size,2,none⟩=some (.int .i64 sa)∧w4.cell? ⟨w.1.size,3,none⟩=some (.int .i64 sb)∧w4.cell? ⟨w.1.size,4,none⟩=some (.int .i64 cp))∧w4.cell? ⟨q,j,none⟩=some (.string wd):=⟨⟨X4.o.c 0 rfl,X4.o.c 1 rfl,X4.o.c 2 rfl,X4.o.c 3 rfl,X4.o.c 4 rfl⟩,K4⟩;clear hb4;refine hK.out _ _ (fun _=>hH4) (fun _=>?_);clear hK K;refine Zq 22 hH4 ?_;refine Zq 23 hH4 ?_;refine Walks.on 26 fun K hK=>?_
   go_simp;refine(HN3.o _).mono ?_;rintro e w5 ⟨rfl,hb5⟩;have hB5:=hB4.trans (hb5.mono hB4.size);have X5:=Zd (X4.o.later hb5);have K5:w5.cell? ⟨q,j,none⟩=some (.string wd):=(hb5.cell (p:=⟨q,j,none⟩) (by dsimp only;omega)).trans K4;have hq5:q<w5.1.size:=(by have:=hb5.size;omega);have hH5:(w5.cell? ⟨w.1.size,0,none⟩=some (.string nm)∧w5.cell? ⟨w.1.size,1,none⟩=some (.int .i64 (j:Int))∧w5.cell? ⟨w.1.size,2,none⟩=some (.int .i64 sa)∧w5.cell? ⟨w.1.size,3,none⟩=some (.int .i64 sb)∧w5.cell? ⟨w.1.size,4,none⟩=some (.int .i64 cp))∧w5.cell? ⟨q,j,none⟩=some (.string wd):=⟨⟨X5.o.c 0 rfl,X5.o.c 1 rfl,X5.o.c 2 rfl,X5.o.c 3 rfl,X5.o.c 4 rfl⟩,K5⟩;clear hb5;refine hK.out _ _ (fun _=>hH5) (fun _=>?_);clear hK K;refine Zq 27 hH5 ?_;refine Zq 28 hH5 ?_;refine Zq 30 hH5 ?_;refine Walks.on 31 fun K hK=>?_
   go_simp;refine hK.out _ _ (fun _=>hH5) (fun _=>?_);clear hK K;refine Walks.done (by kernel_rfl) ?_ _;go_wp2;go_ret;exact⟨by rw[HR.o];rfl,hB5⟩
def Kx(m:UInt8):List UInt8→List (List UInt8)
 | []=>[[]]
 |x::r=>if x=m then[]::Kx m r else match Kx m r with
  | []=>[[x]]
  |p::ps=>(x::p)::ps
theorem Un(m:UInt8):∀l,Kx m l≠[]
 | []=>by simp[Kx]
 |x::r=>by
  rw[Kx]
  split
  ·simp
  ·split <;> simp
theorem Lp(m:UInt8):∀l,Lib.join (Kx m l) [m]=l
 | []=>by simp[Kx,Lib.join_one]
 |x::r=>by
  have ih:=Lp m r;have hne:=Un m r;rw[Kx]
  split
  ·next h =>
   cases hs:Kx m r with
   |nil=>exact absurd hs hne
   |cons p ps =>
    rw[hs]at ih;rw[Lib.join_cons,List.nil_append,Lib.joinTail,List.map_cons,List.flatten_cons];rw[Lib.join_cons]at ih;subst h
    simpa[Lib.joinTail]using ih
  ·cases hs:Kx m r with
   |nil=>exact absurd hs hne
   |cons p ps =>
    rw[hs]at ih;dsimp only;rw[Lib.join_cons]at ih ⊢;rw[List.cons_append,ih]
theorem Fd{m:UInt8}:∀{p:List UInt8},m∉p→Kx m p=[p]
 | [],_=>rfl
 |x::r,h=>by
  have hx:x≠m:=fun e=>h (by simp[e])
  rw[Kx,if_neg hx,Fd (p:=r) fun hm=>h (by simp[hm])]
theorem Fe{m:UInt8}:∀{p:List UInt8}(r:List UInt8),m∉p→Kx m (p++m::r)=p::Kx m r
 | [],r,_=>by simp[Kx]
 |x::p,r,h=>by
  have hx:x≠m:=fun e=>h (by simp[e])
  rw[List.cons_append,Kx,if_neg hx,Fe (p:=p) r fun hm=>h (by simp[hm])]
theorem Nh{m:UInt8}:∀{ps:List (List UInt8)},ps≠[]→(∀p∈ps,m∉p)→Kx m (Lib.join ps [m])=ps
 | [],h,_=>absurd rfl h
 | [p],_,h=>by rw[Lib.join_one];exact Fd (h p (by simp))
 |p::q::r,_,h=>by
  have ih:=Nh (ps:=q::r) (by simp) fun x hx=>h x (by simp[hx])
  have e:Lib.join (p::q::r) [m]=p++m::Lib.join (q::r) [m]:=by
   rw[Lib.join_cons,Lib.join_cons];simp[Lib.joinTail]
  rw[e,Fe _ (h p (by simp)),ih]
def Ql(s:ByteArray)(m:Int):Nat→Nat→Nat→List ByteArray
 |0,_,f=>[s.extract f s.size]
 |n+1,i,f=>if Yg s i=m then s.extract f i::Ql s m n (i+1) (i+1)else Ql s m n (i+1) f
def Zw(s:ByteArray)(m:Int):List ByteArray:=Ql s m s.size 0 0
theorem Hx(s:ByteArray)(m:Int):∀(d n i f:Nat),(∀k,i≤k→k<i+d→Yg s k≠m)→d≤n→Ql s m n i f=Ql s m (n-d) (i+d) f
 |0,n,i,f,_,_=>rfl
 |d+1,0,i,f,_,hn=>by omega
 |d+1,n+1,i,f,h,hn=>by
  rw[Ql,if_neg (h i (by omega) (by omega)),Hx s m d n (i+1) f (fun k h1 h2=>h k (by omega) (by omega)) (by omega)]
  congr 1
  ·omega
  ·omega
theorem Pq(s:ByteArray)(m:Int):∀(n i f:Nat),(Ql s m n i f).length≤n+1
 |0,i,f=>by simp[Ql]
 |n+1,i,f=>by
  rw[Ql]
  split
  ·have:=Pq s m n (i+1) (i+1);simp;omega
  ·have:=Pq s m n (i+1) f;omega
theorem Qr(s:ByteArray)(m:Int):(Zw s m).length≤s.size+1:=Pq s m _ _ _
theorem Gh(s:ByteArray)(a b:Nat):(s.extract a b).data.toList=(s.data.toList.drop a).take (b-a):=by
 rw[ByteArray.data_extract,Array.toList_extract,List.extract_eq_take_drop]
theorem list_at{s:ByteArray}{i:Nat}(h:i<s.size):s.data.toList.drop i=s[i]::s.data.toList.drop (i+1):=by
 have h':i<s.data.toList.length:=by rw[Array.length_toList];exact h
 rw[List.drop_eq_getElem_cons h']
 congr 1
theorem Uo(s:ByteArray)(m:UInt8):∀(n i f:Nat),i+n=s.size→f≤i→(Ql s (m.toNat:Int) n i f).map (·.data.toList)=match Kx m (s.data.toList.drop i)with| []=>[]|p::ps=>((s.data.toList.drop f).take (i-f)++p)::ps
 |0,i,f,hi,hf=>by
  have e:s.data.toList.drop i=[]:=List.drop_eq_nil_of_le (by rw[Array.length_toList];have:s.data.size=s.size:=rfl;omega);rw[e];simp only[Ql,Kx,List.map_cons,List.map_nil,Gh];rw[show s.size-f=i-f by omega];simp
 |n+1,i,f,hi,hf=>by
  have hlt:i<s.size:=by omega
  rw[list_at hlt,Ql,Kx];have hb:Yg s i=(m.toNat:Int)↔s[i]=m:=by
   rw[Kh hlt]
   constructor
   ·intro h;exact UInt8.toNat_inj.1 (by omega)
   ·intro h;rw[h]
  by_cases h:s[i]=m
  ·rw[if_pos (hb.2 h),if_pos h];have ih:=Uo s m n (i+1) (i+1) (by omega) (Nat.le_refl _);rw[List.map_cons,ih,Gh];have hne:=Un m (s.data.toList.drop (i+1))
   cases hs:Kx m (s.data.toList.drop (i+1))with
   |nil=>exact absurd hs hne
   |cons p ps=>simp
  ·rw[if_neg (fun e=>h (hb.1 e)),if_neg h];have ih:=Uo s m n (i+1) f (by omega) (by omega);rw[ih];have hne:=Un m (s.data.toList.drop (i+1))
   cases hs:Kx m (s.data.toList.drop (i+1))with
   |nil=>exact absurd hs hne
   |cons p ps =>
    have e:(s.data.toList.drop f).take (i+1-f)=(s.data.toList.drop f).take (i-f)++[s[i]]:=by
     rw[show i+1-f=(i-f)+1 by omega,List.take_add_one]
     congr 1
     rw[List.getElem?_drop,show f+(i-f)=i by omega];have h':i<s.data.toList.length:=by rw[Array.length_toList];exact hlt
     rw[List.getElem?_eq_getElem h'];rfl
    simp[e]
theorem Pj(s:ByteArray)(m:UInt8):(Zw s (m.toNat:Int)).map (·.data.toList)=Kx m s.data.toList:=by
 have h:=Uo s m s.size 0 0 (by omega) (Nat.le_refl _);rw[Zw,h];have hne:=Un m (s.data.toList.drop 0);rw[List.drop_zero]at hne ⊢
 cases hs:Kx m s.data.toList with
 |nil=>exact absurd hs hne
 |cons p ps=>simp
theorem Jd(s:ByteArray)(m:UInt8):0<(Zw s (m.toNat:Int)).length:=by
 have h:=congrArg List.length (Pj s m);rw[List.length_map]at h;have:=List.length_pos_iff.2 (Un m s.data.toList)
 omega
theorem Pk(s:ByteArray)(m:UInt8):Wv (Zw s (m.toNat:Int)) ⟨#[m]⟩=s:=by
 apply Hd
 rw[Xx,Pj];exact Lp m _
theorem Hw:∀{a b:List ByteArray},a.map (·.data.toList)=b.map (·.data.toList)→a=b
 | [],[],_=>rfl
 | [],_::_,h=>by simp at h
 |_::_,[],h=>by simp at h
 |x::a,y::b,h=>by
  simp only[List.map_cons,List.cons.injEq]at h;rw[Hd h.1,Hw h.2]
theorem Dl{ps:List ByteArray}{m:UInt8}(h0:ps≠[])(h:∀p∈ps,m∉p.data.toList):Zw (Wv ps ⟨#[m]⟩) (m.toNat:Int)=ps:=by
 apply Hw
 rw[Pj,Xx];refine Nh (by simpa using h0) fun p hp=>?_
 obtain⟨x,hx,rfl⟩:=List.mem_map.1 hp;exact h x hx
end Go.Proofs.YtdacedbfnlkghaaGreatDoor