/- Stages: what a stage makes of a value: the walks. ApplyStage on both sides. Rows of stages; chains in plain words. No conditions but those written. -/
import Derived.Test.YtdacedbfnlkghaaGreatDoorUSiSk
namespace Go.Proofs.YtdacedbfnlkghaaGreatDoor
set_option maxHeartbeats 8000000
open Go.RowKit Go.Proofs.Tryz
def AnsA(w:World)(r:List Int×Bool)(e:Ending)(w':World):Prop :=
 (∃o c,e=.returned (.tuple #[.slice o r.1.length c,.bool r.2])∧(o=none→c=0)∧kI.Fresh w.1.size w'.1.size w' o c r.1)∧Below w.1.size w w'
theorem Rh{lo:Nat}{W:World}{z:Int}(h:lo≤W.1.size):kI.Fresh lo (W.alloc (.cells #[.int .i64 z] 3)).heap.size (W.alloc (.cells #[.int .i64 z] 3)) (some ⟨W.1.size,0,none⟩) 1 [z] :=
 .inr ⟨W.1.size,rfl,by simp,Kt (K:=kI) (cs:=[.int .i64 z]) (xs:=[z]) (Array.getElem?_push_size) rfl h (by simp)⟩
theorem Ny{w W:World}{z:Int}{p:Nat}(hB:Below w.1.size w W)(hp:W.1.size=p):AnsA w ([z],false) (.returned (.tuple #[.slice (some ⟨p,0,none⟩) 1 1,.bool false])) (W.alloc (.cells #[.int .i64 z] 3)):=by
 subst hp;exact⟨⟨_,_,rfl,(fun h=>by cases h),Rh hB.size⟩,Zx hB _⟩
theorem Ld{w W:World}{b:Bool}(hB:Below w.1.size w W):AnsA w ([],b) (.returned (.tuple #[.slice none 0 0,.bool b])) W :=
 ⟨⟨_,_,rfl,fun _=>rfl,.inl rfl⟩,hB⟩
theorem l7Apply1(a b v:Int)(w:World)(hg:Zg 1 a b=true)(hv:Ju v=true) :
  Calls prog 216 #[.agg #[.int .i64 1,.int .i64 a,.int .i64 b],.int .i64 v] w (AnsA w (Jo 1 a b v)):=by
 have g1:=good1 hg;have v1:=val_of hv;have m1:=mul_le100 v1 ⟨g1.1,g1.2.1⟩;clear hg hv;go_enter func216,ntmps216;go_wp2_with fail;refine(l7Cut_is (v*a+b) _ _ rfl).mono ?_;rintro e w1 ⟨rfl,hw1⟩;rw[hw1];clear hw1 w1
 go_wp2;exact bodyPost_ret (v:=.tuple #[.slice (some ⟨w.1.size+1,0,none⟩) 1 1,.bool false]) (by simp[results,results216,go_sem]) rfl (Ny (Zk _ _) (by simp))
theorem mapOne_is(a b v:Int)(w:World)(hg:Zg 1 a b=true)(hv:Ju v=true) :
  Calls prog 145 #[.agg #[.int .i64 1,.int .i64 a,.int .i64 b],.int .i64 v] w (AnsA w (Jo 1 a b v)):=by
 have g1:=good1 hg;have v1:=val_of hv;have m1:=mul_le100 v1 ⟨g1.1,g1.2.1⟩;clear hg hv;go_enter func145,ntmps145;go_wp2_with fail;refine(cutTo_is (v*a+b) _ _ rfl).mono ?_;rintro e w1 ⟨rfl,hw1⟩;rw[hw1];clear hw1 w1
 go_wp2;exact bodyPost_ret (v:=.tuple #[.slice (some ⟨w.1.size+1,0,none⟩) 1 1,.bool false]) (by simp[results,results145,go_sem]) rfl (Ny (Zk _ _) (by simp))
theorem l7Apply2(a b v:Int)(w:World)(hg:Zg 2 a b=true) :
  Calls prog 216 #[.agg #[.int .i64 2,.int .i64 a,.int .i64 b],.int .i64 v] w (AnsA w (Jo 2 a b v)):=by
 have g1:=good2 hg;clear hg
 generalize hm:v % a=m
 have HM:=Zd hm;clear hm
 by_cases hh:m=b
 ·have ha:Jo 2 a b v=([v],false):=by rw[Dw,HM.o,if_pos hh]
  rw[ha];have hc:(m != b)=false:=by simp[hh]
  clear hh ha;go_enter func216,ntmps216;go_wp2
  go_quiet (exact Calls.quiet_of_same (Lj v a _ m HM.o (by omega) (by omega)))
  go_wp2;exact bodyPost_ret (v:=.tuple #[.slice (some ⟨w.1.size+1,0,none⟩) 1 1,.bool false]) (by simp[results,results216,go_sem]) rfl (Ny (Zc (Zk _ _) _) (by simp))
 ·have ha:Jo 2 a b v=([],false):=by rw[Dw,HM.o,if_neg hh]
  rw[ha];have hc:(m != b)=true:=by simp[hh]
  clear hh ha;go_enter func216,ntmps216;go_wp2
  go_quiet (exact Calls.quiet_of_same (Lj v a _ m HM.o (by omega) (by omega)))
  go_wp2;exact bodyPost_ret (v:=.tuple #[.slice none 0 0,.bool false]) (by simp[results,results216,go_sem]) rfl (Ld (Zc (Zk _ _) _))
theorem l7Apply4(a b v:Int)(w:World)(hg:Zg 4 a b=true) :
  Calls prog 216 #[.agg #[.int .i64 4,.int .i64 a,.int .i64 b],.int .i64 v] w (AnsA w (Jo 4 a b v)):=by
 have g1:=good4 hg;clear hg
 generalize hm:v % a=m
 have HM:=Zd hm;clear hm
 by_cases hh:m=b
 ·have ha:Jo 4 a b v=([],true):=by rw[Dv,HM.o,if_pos hh]
  rw[ha];have hc:(m==b)=true:=by simp[hh]
  clear hh ha;go_enter func216,ntmps216;go_wp2
  go_quiet (exact Calls.quiet_of_same (Lj v a _ m HM.o (by omega) (by omega)))
  go_wp2;exact bodyPost_ret (v:=.tuple #[.slice none 0 0,.bool true]) (by simp[results,results216,go_sem]) rfl (Ld (Zc (Zk _ _) _))
 ·have ha:Jo 4 a b v=([v],false):=by rw[Dv,HM.o,if_neg hh]
  rw[ha];have hc:(m==b)=false:=by simp[hh]
  clear hh ha;go_enter func216,ntmps216;go_wp2
  go_quiet (exact Calls.quiet_of_same (Lj v a _ m HM.o (by omega) (by omega)))
  go_wp2;exact bodyPost_ret (v:=.tuple #[.slice (some ⟨w.1.size+1,0,none⟩) 1 1,.bool false]) (by simp[results,results216,go_sem]) rfl (Ny (Zc (Zk _ _) _) (by simp))
theorem filterOne_is(a b v:Int)(w:World)(hg:Zg 2 a b=true) :
  Calls prog 148 #[.agg #[.int .i64 2,.int .i64 a,.int .i64 b],.int .i64 v] w (AnsA w (Jo 2 a b v)):=by
 have g1:=good2 hg;clear hg
 generalize hm:v % a=m
 have HM:=Zd hm;clear hm
 by_cases hh:m=b
 ·have ha:Jo 2 a b v=([v],false):=by rw[Dw,HM.o,if_pos hh]
  rw[ha];have hc:(m != b)=false:=by simp[hh]
  clear hh ha;go_enter func148,ntmps148;go_wp2
  go_quiet (exact Calls.quiet_of_same (Rv v a _ m HM.o (by omega) (by omega)))
  go_wp2;exact bodyPost_ret (v:=.tuple #[.slice (some ⟨w.1.size+1,0,none⟩) 1 1,.bool false]) (by simp[results,results148,go_sem]) rfl (Ny (Zc (Zk _ _) _) (by simp))
 ·have ha:Jo 2 a b v=([],false):=by rw[Dw,HM.o,if_neg hh]
  rw[ha];have hc:(m != b)=true:=by simp[hh]
  clear hh ha;go_enter func148,ntmps148;go_wp2
  go_quiet (exact Calls.quiet_of_same (Rv v a _ m HM.o (by omega) (by omega)))
  go_wp2;exact bodyPost_ret (v:=.tuple #[.slice none 0 0,.bool false]) (by simp[results,results148,go_sem]) rfl (Ld (Zc (Zk _ _) _))
theorem poisonOne_is(a b v:Int)(w:World)(hg:Zg 4 a b=true) :
  Calls prog 152 #[.agg #[.int .i64 4,.int .i64 a,.int .i64 b],.int .i64 v] w (AnsA w (Jo 4 a b v)):=by
 have g1:=good4 hg;clear hg
 generalize hm:v % a=m
 have HM:=Zd hm;clear hm
 by_cases hh:m=b
 ·have ha:Jo 4 a b v=([],true):=by rw[Dv,HM.o,if_pos hh]
  rw[ha];have hc:(m==b)=true:=by simp[hh]
  clear hh ha;go_enter func152,ntmps152;go_wp2
  go_quiet (exact Calls.quiet_of_same (Rv v a _ m HM.o (by omega) (by omega)))
  go_wp2;exact bodyPost_ret (v:=.tuple #[.slice none 0 0,.bool true]) (by simp[results,results152,go_sem]) rfl (Ld (Zc (Zk _ _) _))
 ·have ha:Jo 4 a b v=([v],false):=by rw[Dv,HM.o,if_neg hh]
  rw[ha];have hc:(m==b)=false:=by simp[hh]
  clear hh ha;go_enter func152,ntmps152;go_wp2
  go_quiet (exact Calls.quiet_of_same (Rv v a _ m HM.o (by omega) (by omega)))
  go_wp2;exact bodyPost_ret (v:=.tuple #[.slice (some ⟨w.1.size+1,0,none⟩) 1 1,.bool false]) (by simp[results,results152,go_sem]) rfl (Ny (Zc (Zk _ _) _) (by simp))
theorem l7Apply3(a b v:Int)(w:World)(hg:Zg 3 a b=true)(hv:Ju v=true) :
  Calls prog 216 #[.agg #[.int .i64 3,.int .i64 a,.int .i64 b],.int .i64 v] w (AnsA w (Jo 3 a b v)):=by
 have g1:=good3 hg;have v1:=val_of hv;rw[appSt3];obtain⟨n,hn⟩:∃n:Nat,a=n:=⟨a.toNat,by omega⟩;subst hn;have hn3:n≤3:=by omega
 have hn1:1≤n:=by omega
 have hb1 : -1000≤b∧b≤1000:=g1.2.2;rw[show(n:Int).toNat=n from by simp];clear hg hv g1;have A0:=Zd (Bx.new (w:=w) (p:=w.1.size) [.int .i64 3,.int .i64 n,.int .i64 b] 24 rfl);have hB0:=Zk w (.cells #[.int .i64 3,.int .i64 n,.int .i64 b] 24);go_enter func216,ntmps216;go_wp2
 go_loopw [6,7] (fun u i wr=>∃(k:Nat)(v':Value),v'=u∧k≤n∧i=.int .i64 k∧Zi (kI.Own (w.1.size+1) wr v' (De k b v))∧Zi (Bx wr w.1.size [.int .i64 3,.int .i64 n,.int .i64 b])∧Below w.1.size w wr∧w.1.size+1≤wr.1.size) (fun _ i _=>n-(intOf i).toNat)
 case atStart=>exact⟨0,_,rfl,Nat.zero_le _,rfl,Kind.Own.nil _ _ _,A0,hB0,by simp⟩
 case round =>
  obtain⟨k,u,rfl,hk,rfl,hO,hA,hB,hs⟩:=hrel;obtain⟨a0,a1,a2⟩:=hA.o.y3
  by_cases hlt:k<n
  ·have hkb : -3000≤(k:Int)*b∧(k:Int)*b≤3000:=by
    have hq:((k:Int)*b).natAbs≤3*1000:=by rw[Int.natAbs_mul];exact Nat.mul_le_mul (by omega) (by omega)
    omega
   obtain⟨z,hz⟩:=nmd (cutI (v+(k:Int)*b));have HZ:=Zd hz;clear hz;have HA:Zi (kI.Own (w.1.size+1) (wr.alloc (.cells #[.int .i64 z] 3)) u (De k b v)):=hO.o.below (Zk _ _);have HN:Zi (kI.In (wr.1.size+1) (wr.alloc (.cells #[.int .i64 z] 3)) (some ⟨wr.1.size,0,none⟩) [z]):=Kc (by omega) (by simp);have hll:(De k b v).length+1≤4194304:=by rw[Lw];omega
   have hBa:Below w.1.size w (wr.alloc (.cells #[.int .i64 z] 3)):=Zx hB _;have hA2:=Zd (hA.o.alloc (.cells #[.int .i64 z] 3));go_wp2_with fail;refine(l7Cut_is (v+(k:Int)*b) _ z HZ.o.symm).mono ?_;rintro e w1 ⟨rfl,hw1⟩;rw[hw1];clear hw1 w1
   go_wp2_with (at_builtin;refine Kind.app Vq (wr.alloc (.cells #[.int .i64 z] 3)) rfl (.tmp 45) (.tmp 53) rfl (w.1.size+1) u (De k b v) rfl HA.o (by simp;omega) (some ⟨wr.1.size,0,none⟩) [z] 1 1 rfl rfl (by simp) _ HN.o hll ?_;intro v' w' hO' hB' hG' hn';have hB2:Below w.1.size w w':=hBa.trans (hB'.mono (by omega));have hs2:w.1.size+1≤w'.1.size:=(by have:=hB'.size;simp at this;omega);have HA3:=Zd (hA2.o.below hB' (by omega));have HO':Zi (kI.Own (w.1.size+1) w' v' (De (k+1) b v)):=(by rw[Zi,expI_succ,←HZ.o];exact hO');clear hO' hB' hG' hn');go_roundw
   case rel=>exact⟨k+1,v',rfl,by omega,by go_num,HO',HA3,hB2,hs2⟩
   case measure=>simp[intOf];omega
  ·obtain rfl:k=n:=by omega
   obtain⟨qo,qc,rfl,hq0,hF⟩:=hO.o.fresh;have HF:Zi (kI.Fresh w.1.size wr.1.size wr qo qc (De k b v)):=hF.wide (by omega) (Nat.le_refl _);have HQ:=Zd hq0;clear hF hO hq0;go_wp2;exact bodyPost_ret (v:=.tuple #[.slice qo (De k b v).length qc,.bool false]) (by simp[results,results216,go_sem]) rfl ⟨⟨_,_,rfl,HQ.o,HF.o⟩,hB⟩
theorem expandOne_is(a b v:Int)(w:World)(hg:Zg 3 a b=true)(hv:Ju v=true) :
  Calls prog 150 #[.agg #[.int .i64 3,.int .i64 a,.int .i64 b],.int .i64 v] w (AnsA w (Jo 3 a b v)):=by
 have g1:=good3 hg;have v1:=val_of hv;rw[appSt3];obtain⟨n,hn⟩:∃n:Nat,a=n:=⟨a.toNat,by omega⟩;subst hn;have hn3:n≤3:=by omega
 have hn1:1≤n:=by omega
 have hb1 : -1000≤b∧b≤1000:=g1.2.2;rw[show(n:Int).toNat=n from by simp];clear hg hv g1;have A0:=Zd (Bx.new (w:=w) (p:=w.1.size) [.int .i64 3,.int .i64 n,.int .i64 b] 24 rfl);have hB0:=Zk w (.cells #[.int .i64 3,.int .i64 n,.int .i64 b] 24);go_enter func150,ntmps150;go_wp2
 go_loopw [6,10] (fun u i wr=>∃(k:Nat)(v':Value),v'=u∧k≤n∧i=.int .i64 k∧Zi (kI.Own (w.1.size+1) wr v' (De k b v))∧Zi (Bx wr w.1.size [.int .i64 3,.int .i64 n,.int .i64 b])∧Below w.1.size w wr∧w.1.size+1≤wr.1.size) (fun _ i _=>n-(intOf i).toNat)
 case atStart=>exact⟨0,_,rfl,Nat.zero_le _,rfl,Kind.Own.nil _ _ _,A0,hB0,by simp⟩
 case round =>
  obtain⟨k,u,rfl,hk,rfl,hO,hA,hB,hs⟩:=hrel;obtain⟨a0,a1,a2⟩:=hA.o.y3
  by_cases hlt:k<n
  ·have hkb : -3000≤(k:Int)*b∧(k:Int)*b≤3000:=by
    have hq:((k:Int)*b).natAbs≤3*1000:=by rw[Int.natAbs_mul];exact Nat.mul_le_mul (by omega) (by omega)
    omega
   obtain⟨z,hz⟩:=nmd (cutI (v+(k:Int)*b));have HZ:=Zd hz;clear hz;have HA:Zi (kI.Own (w.1.size+1) (wr.alloc (.cells #[.int .i64 z] 3)) u (De k b v)):=hO.o.below (Zk _ _);have HN:Zi (kI.In (wr.1.size+1) (wr.alloc (.cells #[.int .i64 z] 3)) (some ⟨wr.1.size,0,none⟩) [z]):=Kc (by omega) (by simp);have hll:(De k b v).length+1≤4194304:=by rw[Lw];omega
   have hBa:Below w.1.size w (wr.alloc (.cells #[.int .i64 z] 3)):=Zx hB _;have hA2:=Zd (hA.o.alloc (.cells #[.int .i64 z] 3));go_wp2_with fail;refine(cutTo_is (v+(k:Int)*b) _ z HZ.o.symm).mono ?_;rintro e w1 ⟨rfl,hw1⟩;rw[hw1];clear hw1 w1
   go_wp2_with (at_builtin;refine Kind.app Vq (wr.alloc (.cells #[.int .i64 z] 3)) rfl (.tmp 13) (.tmp 21) rfl (w.1.size+1) u (De k b v) rfl HA.o (by simp;omega) (some ⟨wr.1.size,0,none⟩) [z] 1 1 rfl rfl (by simp) _ HN.o hll ?_;intro v' w' hO' hB' hG' hn';have hB2:Below w.1.size w w':=hBa.trans (hB'.mono (by omega));have hs2:w.1.size+1≤w'.1.size:=(by have:=hB'.size;simp at this;omega);have HA3:=Zd (hA2.o.below hB' (by omega));have HO':Zi (kI.Own (w.1.size+1) w' v' (De (k+1) b v)):=(by rw[Zi,expI_succ,←HZ.o];exact hO');clear hO' hB' hG' hn');go_roundw
   case rel=>exact⟨k+1,v',rfl,by omega,by go_num,HO',HA3,hB2,hs2⟩
   case measure=>simp[intOf];omega
  ·obtain rfl:k=n:=by omega
   obtain⟨qo,qc,rfl,hq0,hF⟩:=hO.o.fresh;have HF:Zi (kI.Fresh w.1.size wr.1.size wr qo qc (De k b v)):=hF.wide (by omega) (Nat.le_refl _);have HQ:=Zd hq0;clear hF hO hq0;go_wp2;exact bodyPost_ret (v:=.tuple #[.slice qo (De k b v).length qc,.bool false]) (by simp[results,results150,go_sem]) rfl ⟨⟨_,_,rfl,HQ.o,HF.o⟩,hB⟩
theorem Mn(k a b v:Int)(w:World)(hg:Zg k a b=true)(hv:Ju v=true) :
  Calls prog 216 #[.agg #[.int .i64 k,.int .i64 a,.int .i64 b],.int .i64 v] w (AnsA w (Jo k a b v)):=by
 rcases Xe hg with rfl|rfl|rfl|rfl
 ·exact l7Apply1 a b v w hg hv
 ·exact l7Apply2 a b v w hg
 ·exact l7Apply3 a b v w hg hv
 ·exact l7Apply4 a b v w hg
def AnsB(w:World)(r:List Int×Bool×Bool)(e:Ending)(w':World):Prop :=
 (∃o c,e=.returned (.tuple #[.slice o r.1.length c,.bool r.2.1,.bool r.2.2])∧(o=none→c=0)∧kI.Fresh w.1.size w'.1.size w' o c r.1)∧Below w.1.size w w'
theorem Tz{w W:World}{b c:Bool}(hB:Below w.1.size w W):AnsB w ([],b,c) (.returned (.tuple #[.slice none 0 0,.bool b,.bool c])) W :=
 ⟨⟨_,_,rfl,fun _=>rfl,.inl rfl⟩,hB⟩
def Lb(k a b v:Int):List Int×Bool×Bool:=if Zg k a b && Ju v then((Jo k a b v).1,(Jo k a b v).2,true)else([],false,false)
theorem Uw{k a b v:Int}(h:Zg k a b=true)(hv:Ju v=true):Lb k a b v=((Jo k a b v).1,(Jo k a b v).2,true):=by simp[Lb,h,hv]
theorem appR_no1{k a b v:Int}(h:Zg k a b=false):Lb k a b v=([],false,false):=by simp[Lb,h]
theorem La{k a b v:Int}(hv:Ju v=false):Lb k a b v=([],false,false):=by simp[Lb,hv]
theorem Ru(k a b v:Int):(Lb k a b v).1.length≤3:=by
 unfold Lb
 split
 ·rename_i h;exact appSt_len (by revert h;cases Zg k a b <;> simp)
 ·simp
theorem implApp0(k a b v:Int)(w:World)(hg:Zg k a b=false):Calls prog 237 #[.agg #[.int .i64 k,.int .i64 a,.int .i64 b],.int .i64 v] w (AnsB w (Lb k a b v)):=by
 rw[appR_no1 hg];have HG:=Zd hg;clear hg;go_enter func237,ntmps237;go_wp2_with fail;refine(Pg k a b _ HG.o).mono ?_;rintro e w1 ⟨rfl,hb1⟩;have hB1:=(Zk w (.cells #[.int .i64 k,.int .i64 a,.int .i64 b] 24)).trans (hb1.mono (by simp));clear hb1;go_wp2;exact bodyPost_ret (v:=.tuple #[.slice none 0 0,.bool false,.bool false]) (by simp[results,results237,go_sem]) rfl (Tz (Zx hB1 _))
theorem implApp1n(a b v:Int)(w:World)(hg:Zg 1 a b=true)(hv:Ju v=false):Calls prog 237 #[.agg #[.int .i64 1,.int .i64 a,.int .i64 b],.int .i64 v] w (AnsB w (Lb 1 a b v)):=by
 rw[La hv];have HG:=Zd hg;have HV:=Zd hv;clear hg hv;go_enter func237,ntmps237;go_wp2_with fail;refine(Vb a b _ HG.o).mono ?_;rintro e w1 ⟨rfl,hb1⟩;have hB1:=Zx ((Zk w (.cells #[.int .i64 1,.int .i64 a,.int .i64 b] 24)).trans (hb1.mono (by simp))) (.cells #[.func (.func 144) #[] #[],.func (.func 145) #[] #[],.func (.func 146) #[] #[]] 147);have XS:=Zd (((Bx.new (w:=w) (p:=w.1.size) [.int .i64 1,.int .i64 a,.int .i64 b] 24 rfl).later hb1).alloc (.cells #[.func (.func 144) #[] #[],.func (.func 145) #[] #[],.func (.func 146) #[] #[]] 147));have XK:=Zd (Bx.new (w:=w1) (p:=w1.1.size) [.func (.func 144) #[] #[],.func (.func 145) #[] #[],.func (.func 146) #[] #[]] 147 rfl);clear hb1;go_wp2_with fail;refine(Jv v _ _ HV.o).mono ?_;rintro e w2 ⟨rfl,hw2⟩;rw[hw2];clear hw2 w2
 go_wp2;exact bodyPost_ret (v:=.tuple #[.slice none 0 0,.bool false,.bool false]) (by simp[results,results237,go_sem]) rfl (Tz hB1)
theorem implApp1y(a b v:Int)(w:World)(hg:Zg 1 a b=true)(hv:Ju v=true):Calls prog 237 #[.agg #[.int .i64 1,.int .i64 a,.int .i64 b],.int .i64 v] w (AnsB w (Lb 1 a b v)):=by
 rw[Uw hg hv];have HG:=Zd hg;have HV:=Zd hv;clear hg hv
 generalize hr:Jo 1 a b v=r
 have HR:=Zd hr;clear hr;go_enter func237,ntmps237;go_wp2_with fail;refine(Vb a b _ HG.o).mono ?_;rintro e w1 ⟨rfl,hb1⟩;have hB1:=Zx ((Zk w (.cells #[.int .i64 1,.int .i64 a,.int .i64 b] 24)).trans (hb1.mono (by simp))) (.cells #[.func (.func 144) #[] #[],.func (.func 145) #[] #[],.func (.func 146) #[] #[]] 147);have XS:=Zd (((Bx.new (w:=w) (p:=w.1.size) [.int .i64 1,.int .i64 a,.int .i64 b] 24 rfl).later hb1).alloc (.cells #[.func (.func 144) #[] #[],.func (.func 145) #[] #[],.func (.func 146) #[] #[]] 147));have XK:=Zd (Bx.new (w:=w1) (p:=w1.1.size) [.func (.func 144) #[] #[],.func (.func 145) #[] #[],.func (.func 146) #[] #[]] 147 rfl);clear hb1;go_wp2_with fail;refine(Jv v _ _ HV.o).mono ?_;rintro e w2 ⟨rfl,hw2⟩;rw[hw2];clear hw2 w2
 obtain⟨s0,s1,s2⟩:=XS.o.y3;obtain⟨k0,k1,k2⟩:=XK.o.y3;go_wp2_with fail;clear s0 s1 s2 k0 k1 k2;refine(mapOne_is a b v _ HG.o HV.o).mono ?_;rintro e w2 ⟨⟨o,c,rfl,h0,hF⟩,hb2⟩;rw[HR.o]at hF ⊢;have hB2:=hB1.trans (hb2.mono hB1.size);have HF:=Zd (hF.wide (lo':=w.1.size) hB1.size (Nat.le_refl _));have H0:=Zd h0;clear hF hb2 h0 XS XK hB1;go_wp2;exact bodyPost_ret (v:=.tuple #[.slice o r.1.length c,.bool r.2,.bool true]) (by simp[results,results237,go_sem]) rfl ⟨⟨_,_,rfl,H0.o,HF.o⟩,hB2⟩
theorem implApp2n(a b v:Int)(w:World)(hg:Zg 2 a b=true)(hv:Ju v=false):Calls prog 237 #[.agg #[.int .i64 2,.int .i64 a,.int .i64 b],.int .i64 v] w (AnsB w (Lb 2 a b v)):=by
 rw[La hv];have HG:=Zd hg;have HV:=Zd hv;clear hg hv;go_enter func237,ntmps237;go_wp2_with fail;refine(Va a b _ HG.o).mono ?_;rintro e w1 ⟨rfl,hb1⟩;have hB1:=Zx ((Zk w (.cells #[.int .i64 2,.int .i64 a,.int .i64 b] 24)).trans (hb1.mono (by simp))) (.cells #[.func (.func 147) #[] #[],.func (.func 148) #[] #[],.func (.func 146) #[] #[]] 147);have XS:=Zd (((Bx.new (w:=w) (p:=w.1.size) [.int .i64 2,.int .i64 a,.int .i64 b] 24 rfl).later hb1).alloc (.cells #[.func (.func 147) #[] #[],.func (.func 148) #[] #[],.func (.func 146) #[] #[]] 147));have XK:=Zd (Bx.new (w:=w1) (p:=w1.1.size) [.func (.func 147) #[] #[],.func (.func 148) #[] #[],.func (.func 146) #[] #[]] 147 rfl);clear hb1;go_wp2_with fail;refine(Jv v _ _ HV.o).mono ?_;rintro e w2 ⟨rfl,hw2⟩;rw[hw2];clear hw2 w2
 go_wp2;exact bodyPost_ret (v:=.tuple #[.slice none 0 0,.bool false,.bool false]) (by simp[results,results237,go_sem]) rfl (Tz hB1)
theorem implApp2y(a b v:Int)(w:World)(hg:Zg 2 a b=true)(hv:Ju v=true):Calls prog 237 #[.agg #[.int .i64 2,.int .i64 a,.int .i64 b],.int .i64 v] w (AnsB w (Lb 2 a b v)):=by
 rw[Uw hg hv];have HG:=Zd hg;have HV:=Zd hv;clear hg hv
 generalize hr:Jo 2 a b v=r
 have HR:=Zd hr;clear hr;go_enter func237,ntmps237;go_wp2_with fail;refine(Va a b _ HG.o).mono ?_;rintro e w1 ⟨rfl,hb1⟩;have hB1:=Zx ((Zk w (.cells #[.int .i64 2,.int .i64 a,.int .i64 b] 24)).trans (hb1.mono (by simp))) (.cells #[.func (.func 147) #[] #[],.func (.func 148) #[] #[],.func (.func 146) #[] #[]] 147);have XS:=Zd (((Bx.new (w:=w) (p:=w.1.size) [.int .i64 2,.int .i64 a,.int .i64 b] 24 rfl).later hb1).alloc (.cells #[.func (.func 147) #[] #[],.func (.func 148) #[] #[],.func (.func 146) #[] #[]] 147));have XK:=Zd (Bx.new (w:=w1) (p:=w1.1.size) [.func (.func 147) #[] #[],.func (.func 148) #[] #[],.func (.func 146) #[] #[]] 147 rfl);clear hb1;go_wp2_with fail;refine(Jv v _ _ HV.o).mono ?_;rintro e w2 ⟨rfl,hw2⟩;rw[hw2];clear hw2 w2
 obtain⟨s0,s1,s2⟩:=XS.o.y3;obtain⟨k0,k1,k2⟩:=XK.o.y3;go_wp2_with fail;clear s0 s1 s2 k0 k1 k2;refine(filterOne_is a b v _ HG.o).mono ?_;rintro e w2 ⟨⟨o,c,rfl,h0,hF⟩,hb2⟩;rw[HR.o]at hF ⊢;have hB2:=hB1.trans (hb2.mono hB1.size);have HF:=Zd (hF.wide (lo':=w.1.size) hB1.size (Nat.le_refl _));have H0:=Zd h0;clear hF hb2 h0 XS XK hB1;go_wp2;exact bodyPost_ret (v:=.tuple #[.slice o r.1.length c,.bool r.2,.bool true]) (by simp[results,results237,go_sem]) rfl ⟨⟨_,_,rfl,H0.o,HF.o⟩,hB2⟩
theorem implApp3n(a b v:Int)(w:World)(hg:Zg 3 a b=true)(hv:Ju v=false):Calls prog 237 #[.agg #[.int .i64 3,.int .i64 a,.int .i64 b],.int .i64 v] w (AnsB w (Lb 3 a b v)):=by
 rw[La hv];have HG:=Zd hg;have HV:=Zd hv;clear hg hv;go_enter func237,ntmps237;go_wp2_with fail;refine(Vy a b _ HG.o).mono ?_;rintro e w1 ⟨rfl,hb1⟩;have hB1:=Zx ((Zk w (.cells #[.int .i64 3,.int .i64 a,.int .i64 b] 24)).trans (hb1.mono (by simp))) (.cells #[.func (.func 149) #[] #[],.func (.func 150) #[] #[],.func (.func 151) #[] #[]] 147);have XS:=Zd (((Bx.new (w:=w) (p:=w.1.size) [.int .i64 3,.int .i64 a,.int .i64 b] 24 rfl).later hb1).alloc (.cells #[.func (.func 149) #[] #[],.func (.func 150) #[] #[],.func (.func 151) #[] #[]] 147));have XK:=Zd (Bx.new (w:=w1) (p:=w1.1.size) [.func (.func 149) #[] #[],.func (.func 150) #[] #[],.func (.func 151) #[] #[]] 147 rfl);clear hb1;go_wp2_with fail;refine(Jv v _ _ HV.o).mono ?_;rintro e w2 ⟨rfl,hw2⟩;rw[hw2];clear hw2 w2
 go_wp2;exact bodyPost_ret (v:=.tuple #[.slice none 0 0,.bool false,.bool false]) (by simp[results,results237,go_sem]) rfl (Tz hB1)
theorem implApp3y(a b v:Int)(w:World)(hg:Zg 3 a b=true)(hv:Ju v=true):Calls prog 237 #[.agg #[.int .i64 3,.int .i64 a,.int .i64 b],.int .i64 v] w (AnsB w (Lb 3 a b v)):=by
 rw[Uw hg hv];have HG:=Zd hg;have HV:=Zd hv;clear hg hv
 generalize hr:Jo 3 a b v=r
 have HR:=Zd hr;clear hr;go_enter func237,ntmps237;go_wp2_with fail;refine(Vy a b _ HG.o).mono ?_;rintro e w1 ⟨rfl,hb1⟩;have hB1:=Zx ((Zk w (.cells #[.int .i64 3,.int .i64 a,.int .i64 b] 24)).trans (hb1.mono (by simp))) (.cells #[.func (.func 149) #[] #[],.func (.func 150) #[] #[],.func (.func 151) #[] #[]] 147);have XS:=Zd (((Bx.new (w:=w) (p:=w.1.size) [.int .i64 3,.int .i64 a,.int .i64 b] 24 rfl).later hb1).alloc (.cells #[.func (.func 149) #[] #[],.func (.func 150) #[] #[],.func (.func 151) #[] #[]] 147));have XK:=Zd (Bx.new (w:=w1) (p:=w1.1.size) [.func (.func 149) #[] #[],.func (.func 150) #[] #[],.func (.func 151) #[] #[]] 147 rfl);clear hb1;go_wp2_with fail;refine(Jv v _ _ HV.o).mono ?_;rintro e w2 ⟨rfl,hw2⟩;rw[hw2];clear hw2 w2
 obtain⟨s0,s1,s2⟩:=XS.o.y3;obtain⟨k0,k1,k2⟩:=XK.o.y3;go_wp2_with fail;clear s0 s1 s2 k0 k1 k2;refine(expandOne_is a b v _ HG.o HV.o).mono ?_;rintro e w2 ⟨⟨o,c,rfl,h0,hF⟩,hb2⟩;rw[HR.o]at hF ⊢;have hB2:=hB1.trans (hb2.mono hB1.size);have HF:=Zd (hF.wide (lo':=w.1.size) hB1.size (Nat.le_refl _));have H0:=Zd h0;clear hF hb2 h0 XS XK hB1;go_wp2;exact bodyPost_ret (v:=.tuple #[.slice o r.1.length c,.bool r.2,.bool true]) (by simp[results,results237,go_sem]) rfl ⟨⟨_,_,rfl,H0.o,HF.o⟩,hB2⟩
theorem implApp4n(a b v:Int)(w:World)(hg:Zg 4 a b=true)(hv:Ju v=false):Calls prog 237 #[.agg #[.int .i64 4,.int .i64 a,.int .i64 b],.int .i64 v] w (AnsB w (Lb 4 a b v)):=by
 rw[La hv];have HG:=Zd hg;have HV:=Zd hv;clear hg hv;go_enter func237,ntmps237;go_wp2_with fail;refine(Vw a b _ HG.o).mono ?_;rintro e w1 ⟨rfl,hb1⟩;have hB1:=Zx ((Zk w (.cells #[.int .i64 4,.int .i64 a,.int .i64 b] 24)).trans (hb1.mono (by simp))) (.cells #[.func (.func 147) #[] #[],.func (.func 152) #[] #[],.func (.func 146) #[] #[]] 147);have XS:=Zd (((Bx.new (w:=w) (p:=w.1.size) [.int .i64 4,.int .i64 a,.int .i64 b] 24 rfl).later hb1).alloc (.cells #[.func (.func 147) #[] #[],.func (.func 152) #[] #[],.func (.func 146) #[] #[]] 147));have XK:=Zd (Bx.new (w:=w1) (p:=w1.1.size) [.func (.func 147) #[] #[],.func (.func 152) #[] #[],.func (.func 146) #[] #[]] 147 rfl);clear hb1;go_wp2_with fail;refine(Jv v _ _ HV.o).mono ?_;rintro e w2 ⟨rfl,hw2⟩;rw[hw2];clear hw2 w2
 go_wp2;exact bodyPost_ret (v:=.tuple #[.slice none 0 0,.bool false,.bool false]) (by simp[results,results237,go_sem]) rfl (Tz hB1)
theorem implApp4y(a b v:Int)(w:World)(hg:Zg 4 a b=true)(hv:Ju v=true):Calls prog 237 #[.agg #[.int .i64 4,.int .i64 a,.int .i64 b],.int .i64 v] w (AnsB w (Lb 4 a b v)):=by
 rw[Uw hg hv];have HG:=Zd hg;have HV:=Zd hv;clear hg hv
 generalize hr:Jo 4 a b v=r
 have HR:=Zd hr;clear hr;go_enter func237,ntmps237;go_wp2_with fail;refine(Vw a b _ HG.o).mono ?_;rintro e w1 ⟨rfl,hb1⟩;have hB1:=Zx ((Zk w (.cells #[.int .i64 4,.int .i64 a,.int .i64 b] 24)).trans (hb1.mono (by simp))) (.cells #[.func (.func 147) #[] #[],.func (.func 152) #[] #[],.func (.func 146) #[] #[]] 147);have XS:=Zd (((Bx.new (w:=w) (p:=w.1.size) [.int .i64 4,.int .i64 a,.int .i64 b] 24 rfl).later hb1).alloc (.cells #[.func (.func 147) #[] #[],.func (.func 152) #[] #[],.func (.func 146) #[] #[]] 147));have XK:=Zd (Bx.new (w:=w1) (p:=w1.1.size) [.func (.func 147) #[] #[],.func (.func 152) #[] #[],.func (.func 146) #[] #[]] 147 rfl);clear hb1;go_wp2_with fail;refine(Jv v _ _ HV.o).mono ?_;rintro e w2 ⟨rfl,hw2⟩;rw[hw2];clear hw2 w2
 obtain⟨s0,s1,s2⟩:=XS.o.y3;obtain⟨k0,k1,k2⟩:=XK.o.y3;go_wp2_with fail;clear s0 s1 s2 k0 k1 k2;refine(poisonOne_is a b v _ HG.o).mono ?_;rintro e w2 ⟨⟨o,c,rfl,h0,hF⟩,hb2⟩;rw[HR.o]at hF ⊢;have hB2:=hB1.trans (hb2.mono hB1.size);have HF:=Zd (hF.wide (lo':=w.1.size) hB1.size (Nat.le_refl _));have H0:=Zd h0;clear hF hb2 h0 XS XK hB1;go_wp2;exact bodyPost_ret (v:=.tuple #[.slice o r.1.length c,.bool r.2,.bool true]) (by simp[results,results237,go_sem]) rfl ⟨⟨_,_,rfl,H0.o,HF.o⟩,hB2⟩
theorem Bk(k a b v:Int)(w:World):Calls prog 237 #[.agg #[.int .i64 k,.int .i64 a,.int .i64 b],.int .i64 v] w (AnsB w (Lb k a b v)):=by
 rcases hg:Zg k a b with _|_
 ·exact implApp0 k a b v w hg
 ·rcases hv:Ju v with _|_
  ·rcases Xe hg with rfl|rfl|rfl|rfl
   ·exact implApp1n a b v w hg hv
   ·exact implApp2n a b v w hg hv
   ·exact implApp3n a b v w hg hv
   ·exact implApp4n a b v w hg hv
  ·rcases Xe hg with rfl|rfl|rfl|rfl
   ·exact implApp1y a b v w hg hv
   ·exact implApp2y a b v w hg hv
   ·exact implApp3y a b v w hg hv
   ·exact implApp4y a b v w hg hv
theorem Zn{xs:List Value}{p q:Nat}{u:Value}(h:p≠q):(xs.set p u)[q]? = xs[q]? := by rw[List.getElem?_set,if_neg h]
theorem Ni{xs:List Value}{p:Nat}{u:Value}(h:p<xs.length):(xs.set p u)[p]? = some u:=by rw[List.getElem?_set,if_pos rfl,if_pos h]
end Go.Proofs.YtdacedbfnlkghaaGreatDoor