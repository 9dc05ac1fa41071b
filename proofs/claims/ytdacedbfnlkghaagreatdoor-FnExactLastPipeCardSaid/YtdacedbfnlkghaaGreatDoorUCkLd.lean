/- What is wrong with a graph: the specification. RoomOf, the program's and the specification's. How many nodes lead to each; the sources: the specification. No conditions but those written. -/
import Derived.Test.YtdacedbfnlkghaaGreatDoorUBfRc
namespace Go.Proofs.YtdacedbfnlkghaaGreatDoor
set_option maxHeartbeats 32000000
set_option maxRecDepth 100000
open Go.RowKit Go.Proofs.Tryz
theorem Cr{gs:List PNode}{i k:Nat}(hk:k<gs.length)(h:Kn gs i (k:Int)=true):brk gs i=true:=by
 rw[brk,List.any_eq_true];exact⟨_,Rk hk,h⟩
theorem brk_no{gs:List PNode}{i:Nat}(h:∀k:Nat,k<gs.length→Kn gs i (k:Int)=false):brk gs i=false:=by
 rw[brk,List.any_eq_false];intro x hx;obtain⟨k,hk,rfl⟩:=Xd hx
 simp[h k hk]
theorem brk_at{gs:List PNode}{i k:Nat}(h:brk gs i=false)(hk:k<gs.length):Kn gs i (k:Int)=false:=by
 rw[brk,List.any_eq_false]at h
 simpa using h _ (Rk hk)
theorem Wz{nx:List Int}{n:Nat}:Vm nx (n:Int)=true↔(∀x∈nx,0≤x∧x<(n:Int))∧nx.Nodup:=by
 have ha:(nx.any (Mv (n:Int))=false)↔∀x∈nx,0≤x∧x<(n:Int):=by
  rw[List.any_eq_false]
  constructor
  ·intro h x hx;have:=h x hx
   simp[Mv]at this
   omega
  ·intro h x hx;have:=h x hx
   simp[Mv]
   omega
 rw[Vm,Bool.and_eq_true,Bool.and_eq_true,Bool.not_eq_true',ha,Dm,decide_eq_true_eq,decide_eq_true_eq]
 constructor
 ·exact fun h=>h.2
 ·intro h;have:=pigeon n nx h.2 h.1;exact⟨by omega,h⟩
theorem Nv{gs:List PNode}(hn:gs.length≤10)(h:brk gs 4=false):EdgesIn gs:=by
 have hg:∀a,a<gs.length→Vm (nxP gs a) (gs.length:Int)=true:=fun a ha=>by
  have:=brk_at h ha;simp only[Kn,Int.toNat_natCast]at this
  simpa[nxP]using this
 refine⟨fun a ha x hx=>?_,fun a ha=>?_,hn⟩
 ·have:=(Wz.1 (hg a ha)).1 x hx;exact⟨x.toNat,by omega,by omega⟩
 ·have h2:=Wz.1 (hg a ha);have:=pigeon gs.length _ h2.2 h2.1
  omega
theorem mem_take_el{α:Type} [Inhabited α] {l:List α} {j k:Nat} (hj:j<l.length) (hk:j<k):el l j∈l.take k:=by
 rw[←el_take hk];exact Zl (by simp;omega)
theorem take_el_mem{α:Type} [Inhabited α] {l:List α} {k:Nat} {x:α} (h:x∈l.take k):∃j,j<k∧x=el l j:=by
 obtain⟨j,hj,rfl⟩:=Gx h;have hj':j<k:=by simp at hj;omega
 exact⟨j,hj',el_take hj'⟩
theorem Zb(ts:List LNode):(ts.map Zz).length=ts.length:=List.length_map _
theorem Up(ao:Option Addr)(cap:Nat)(ts:List LNode)(w:World)(hC:Roomy ts cap)(hz:DIn Ja w.1.size w ao ts) :
  Calls prog 137 #[.slice ao ts.length cap] w fun e w'=>e=.returned (.int .i64 (Qa (ts.map Zz):Nat))∧Below w.1.size w w':=by
 have hl1:=hC.len;have hcap:=hC.row
 by_cases hmany:ts.length<1∨10<ts.length
 ·have HV:=Zd (Nw (gs:=ts.map Zz) (by rw[Zb];exact hmany));go_enter func137,ntmps137;go_wp2_with fail;refine(Zr ts.length 1 10 _ false (Bool.and_eq_false_iff.2 (hmany.elim (fun h=>.inl (decide_eq_false (by omega))) (fun h=>.inr (decide_eq_false (by omega)))))).mono ?_;rintro e w1 ⟨rfl,rfl⟩;go_wp2;go_ret;exact⟨by rw[HV.o];rfl,Below.refl _ _⟩
 have HM:Zi (¬((ts.map Zz).length<1∨10<(ts.map Zz).length)):=by rw[Zi,Zb];exact hmany
 have h10:ts.length≤10:=by omega
 have h1n:1≤ts.length:=by omega
 have HZ:=Zd hz;have HC:=Zd hC;obtain⟨b,off,rfl,hb,hc⟩:=Qw hz.1 (show 0<ts.length by omega);have HCL:=Zd hc;clear hz hc hmany hC;go_enter func137,ntmps137;go_wp2_with fail;refine(Zr ts.length 1 10 _ true (by simp;omega)).mono ?_;rintro e w1 ⟨rfl,rfl⟩;go_wp2
 go_loopw [24] (fun i wr=>∃k:Nat,i=.int .i64 (k:Int)∧k≤ts.length∧Zi (∀j:Nat,j<k→Kn (ts.map Zz) 0 (j:Int)=false)∧Below w1.1.size w1 wr) (fun i _=>ts.length-(intOf i).toNat)
 case atStart=>exact⟨0,rfl,Nat.zero_le _,fun j hj=>by omega,Below.refl _ _⟩
 case round =>
  obtain⟨k,rfl,hk,hN,hB⟩:=hrel
  by_cases hlt:k<ts.length
  ·have d1:=(hB.cell (p:=⟨b,off+k*6,none⟩) hb).trans (HCL.o k hlt).1;have d2:=(hB.cell (p:=⟨b,off+k*6+1,none⟩) hb).trans (HCL.o k hlt).2.1;have d3:=(hB.cell (p:=⟨b,off+k*6+2,none⟩) hb).trans (HCL.o k hlt).2.2.1;have d4:=(hB.cell (p:=⟨b,off+k*6+3,none⟩) hb).trans (HCL.o k hlt).2.2.2.1;have d5:=(hB.cell (p:=⟨b,off+k*6+4,none⟩) hb).trans (HCL.o k hlt).2.2.2.2.1;have d6:=(hB.cell (p:=⟨b,off+k*6+5,none⟩) hb).trans (HCL.o k hlt).2.2.2.2.2;have hfk:=HC.o.fit _ (Zl hlt);have hcn:=HC.o.next _ (Zl hlt);have hev:=Jz hlt;have hin:=HZ.o.2 k hlt;obtain⟨⟨nm,kd,sa,sb,cp,⟨nxo,nxc,nx⟩⟩,ex⟩:∃v,v=el ts k:=⟨_,rfl⟩;rw[←ex]at d1 d2 d3 d4 d5 d6 hfk hev hin hcn;have HE:Zi (el (ts.map Zz) k=(nm,kd,sa,sb,cp,nx)):=hev;have HI:Zi (kI.In w1.1.size w1 nxo nx):=hin;have hki:(k:Int)<(ts.length:Int):=by omega
   clear ex hev hin;dsimp only at d1 d2 d3 d4 d5 d6 hfk hcn;have hB2:Below w1.1.size w1 (wr.alloc (.cells #[.string nm,.int .i64 kd,.int .i64 sa,.int .i64 sb,.int .i64 cp,.slice nxo nx.length nxc] 27)):=Zx hB _
   cases hnm:Yv nm
   ·have HNM:=Zd hnm;clear hnm;have HBK:=Zd (Cr (gs:=ts.map Zz) (i:=0) (k:=k) (by rw[Zb];exact hlt) (by simp only[Kn,Int.toNat_natCast];rw[HE.o];simp[HNM.o]));have HCD:=Zd (Xv HM.o (show 0<5 by decide) HBK.o (fun j hj=>by
      omega))
    go_wp2_with fail;refine(Mo nm _ (by omega)).mono ?_;rw[HNM.o];rintro e w2 ⟨rfl,rfl⟩;go_wp2;go_ret;exact⟨by rw[HCD.o];rfl,hB2⟩
   ·have HNM:=Zd hnm;clear hnm;go_wp2_with fail;refine(Mo nm _ (by omega)).mono ?_;rw[HNM.o];rintro e w2 ⟨rfl,rfl⟩;go_wp2;go_roundw
    case rel =>
     refine⟨k+1,by go_num,by omega,fun j hj=>?_,hB2⟩
     rcases Nat.lt_succ_iff_lt_or_eq.1 hj with h|rfl
     ·exact hN.o j h
     ·simp only[Kn,Int.toNat_natCast];rw[HE.o];simp[HNM.o]
    case measure=>simp[intOf];omega
  ·obtain rfl:k=ts.length:=by omega
   have HN0:=Zd (brk_no (gs:=ts.map Zz) (i:=0) (fun k hk=>hN.o k (by rw[Zb]at hk;exact hk)));clear hN hlt hk;go_wp2
   go_loopw [35] (fun i wr=>∃k:Nat,i=.int .i64 (k:Int)∧k≤ts.length∧Zi (∀j:Nat,j<k→Kn (ts.map Zz) 1 (j:Int)=false)∧Below w1.1.size w1 wr) (fun i _=>ts.length-(intOf i).toNat)
   case atStart=>exact⟨0,rfl,Nat.zero_le _,fun j hj=>by omega,hB⟩
   case round =>
    clear hB;obtain⟨k,rfl,hk,hN,hB⟩:=hrel
    by_cases hlt:k<ts.length
    ·have d1:=(hB.cell (p:=⟨b,off+k*6,none⟩) hb).trans (HCL.o k hlt).1;have d2:=(hB.cell (p:=⟨b,off+k*6+1,none⟩) hb).trans (HCL.o k hlt).2.1;have d3:=(hB.cell (p:=⟨b,off+k*6+2,none⟩) hb).trans (HCL.o k hlt).2.2.1;have d4:=(hB.cell (p:=⟨b,off+k*6+3,none⟩) hb).trans (HCL.o k hlt).2.2.2.1;have d5:=(hB.cell (p:=⟨b,off+k*6+4,none⟩) hb).trans (HCL.o k hlt).2.2.2.2.1;have d6:=(hB.cell (p:=⟨b,off+k*6+5,none⟩) hb).trans (HCL.o k hlt).2.2.2.2.2;have hfk:=HC.o.fit _ (Zl hlt);have hcn:=HC.o.next _ (Zl hlt);have hev:=Jz hlt;have hin:=HZ.o.2 k hlt;obtain⟨⟨nm,kd,sa,sb,cp,⟨nxo,nxc,nx⟩⟩,ex⟩:∃v,v=el ts k:=⟨_,rfl⟩;rw[←ex]at d1 d2 d3 d4 d5 d6 hfk hev hin hcn;have HE:Zi (el (ts.map Zz) k=(nm,kd,sa,sb,cp,nx)):=hev;have HI:Zi (kI.In w1.1.size w1 nxo nx):=hin;have hki:(k:Int)<(ts.length:Int):=by omega
     clear ex hev hin;dsimp only at d1 d2 d3 d4 d5 d6 hfk hcn;have hkc:(k:Int)≤(cap:Int):=by omega
     obtain⟨V,hV⟩:=nmd (wr.alloc (.cells #[.string nm,.int .i64 kd,.int .i64 sa,.int .i64 sb,.int .i64 cp,.slice nxo nx.length nxc] 27));have hbV:Below wr.1.size wr V:=by rw[hV];exact Zk _ _
     have XV:Zi (Bx V wr.1.size [.string nm,.int .i64 kd,.int .i64 sa,.int .i64 sb,.int .i64 cp,.slice nxo nx.length nxc]):=by rw[hV];exact Bx.new [.string nm,.int .i64 kd,.int .i64 sa,.int .i64 sb,.int .i64 cp,.slice nxo nx.length nxc] _ rfl
     have hBV:Below w1.1.size w1 V:=hB.trans (hbV.mono hB.size);have HV:=Zd hV;clear hV hbV;go_wp2;rw[←HV.o];obtain⟨pb,hpb⟩:=nmd (wr.1.size);rw[←hpb]at XV ⊢;clear hpb HV d1 d2 d3 d4 d5 d6
     go_loopw [44] (fun i wr=>∃m:Nat,i=.int .i64 (m:Int)∧m≤k∧Zi (∀j:Nat,j<m→Ls (el (ts.map Zz) j).1 nm=false)∧Zi (Bx wr pb [.string nm,.int .i64 kd,.int .i64 sa,.int .i64 sb,.int .i64 cp,.slice nxo nx.length nxc])∧Below w1.1.size w1 wr) (fun i _=>k-(intOf i).toNat)
     case atStart=>exact⟨0,rfl,Nat.zero_le _,fun j hj=>by omega,XV,hBV⟩
     case round =>
      clear hBV XV hB;obtain⟨m,rfl,hm,hA,hX,hB⟩:=hrel;have x0:=hX.o.c 0 rfl;have xs:=hX.o.size
      by_cases hmk:m<k
      ·have hmt:m<ts.length:=by omega
       have e1:=(hB.cell (p:=⟨b,off+m*6,none⟩) hb).trans (HCL.o m hmt).1;have e2:=(hB.cell (p:=⟨b,off+m*6+1,none⟩) hb).trans (HCL.o m hmt).2.1;have e3:=(hB.cell (p:=⟨b,off+m*6+2,none⟩) hb).trans (HCL.o m hmt).2.2.1;have e4:=(hB.cell (p:=⟨b,off+m*6+3,none⟩) hb).trans (HCL.o m hmt).2.2.2.1;have e5:=(hB.cell (p:=⟨b,off+m*6+4,none⟩) hb).trans (HCL.o m hmt).2.2.2.2.1;have e6:=(hB.cell (p:=⟨b,off+m*6+5,none⟩) hb).trans (HCL.o m hmt).2.2.2.2.2;have hev:=Jz hmt;obtain⟨⟨nm',kd',sa',sb',cp',⟨nxo',nxc',nx'⟩⟩,ex⟩:∃v,v=el ts m:=⟨_,rfl⟩;rw[←ex]at e1 e2 e3 e4 e5 e6 hev;have HE':Zi ((el (ts.map Zz) m).1=nm'):=by rw[Zi,hev];rfl
       clear ex hev;dsimp only at e1 e2 e3 e4 e5 e6;have hB2:Below w1.1.size w1 (wr.alloc (.cells #[.string nm',.int .i64 kd',.int .i64 sa',.int .i64 sb',.int .i64 cp',.slice nxo' nx'.length nxc'] 27)):=Zx hB _;have hX2:=Zd (hX.o.alloc (.cells #[.string nm',.int .i64 kd',.int .i64 sa',.int .i64 sb',.int .i64 cp',.slice nxo' nx'.length nxc'] 27))
       cases hs:Ls nm' nm
       ·have HS:=Zd hs
        unfold Ls at hs
        go_wp2;go_roundw
        case rel =>
         refine⟨m+1,by go_num,by omega,fun j hj=>?_,hX2,hB2⟩
         rcases Nat.lt_succ_iff_lt_or_eq.1 hj with h|rfl
         ·exact hA.o j h
         ·rw[HE'.o];exact HS.o
        case measure=>simp[intOf];omega
       ·have HS:=Zd hs
        unfold Ls at hs
        have HBK:=Zd (Cr (gs:=ts.map Zz) (i:=1) (k:=k) (by rw[Zb];exact hlt) (by simp only[Kn,Int.toNat_natCast];rw[HE.o,List.any_eq_true];exact⟨el (ts.map Zz) m,mem_take_el (by rw[Zb];exact hmt) hmk,by rw[HE'.o];exact HS.o⟩));have HCD:=Zd (Xv HM.o (show 1<5 by decide) HBK.o (fun j hj=>by
          rcases(show j=0 from by omega)with rfl
          ·exact HN0.o))
        go_wp2;go_ret;exact⟨by rw[HCD.o];rfl,hB2⟩
      ·obtain rfl:m=k:=by omega
       clear hmk;go_wp2;go_roundw
       case rel =>
        refine⟨m+1,by go_num,by omega,fun j hj=>?_,hB⟩
        rcases Nat.lt_succ_iff_lt_or_eq.1 hj with h|rfl
        ·exact hN.o j h
        ·simp only[Kn,Int.toNat_natCast];rw[HE.o,List.any_eq_false];intro y hy;obtain⟨j,hj,rfl⟩:=take_el_mem hy;simp[hA.o j hj]
       case measure=>simp[intOf];omega
    ·obtain rfl:k=ts.length:=by omega
     have HN1:=Zd (brk_no (gs:=ts.map Zz) (i:=1) (fun k hk=>hN.o k (by rw[Zb]at hk;exact hk)));clear hN hlt hk;go_wp2
     go_loopw [57] (fun i wr=>∃k:Nat,i=.int .i64 (k:Int)∧k≤ts.length∧Zi (∀j:Nat,j<k→Kn (ts.map Zz) 2 (j:Int)=false)∧Below w1.1.size w1 wr) (fun i _=>ts.length-(intOf i).toNat)
     case atStart=>exact⟨0,rfl,Nat.zero_le _,fun j hj=>by omega,hB⟩
     case round =>
      clear hB;obtain⟨k,rfl,hk,hN,hB⟩:=hrel
      by_cases hlt:k<ts.length
      ·have d1:=(hB.cell (p:=⟨b,off+k*6,none⟩) hb).trans (HCL.o k hlt).1;have d2:=(hB.cell (p:=⟨b,off+k*6+1,none⟩) hb).trans (HCL.o k hlt).2.1;have d3:=(hB.cell (p:=⟨b,off+k*6+2,none⟩) hb).trans (HCL.o k hlt).2.2.1;have d4:=(hB.cell (p:=⟨b,off+k*6+3,none⟩) hb).trans (HCL.o k hlt).2.2.2.1;have d5:=(hB.cell (p:=⟨b,off+k*6+4,none⟩) hb).trans (HCL.o k hlt).2.2.2.2.1;have d6:=(hB.cell (p:=⟨b,off+k*6+5,none⟩) hb).trans (HCL.o k hlt).2.2.2.2.2;have hfk:=HC.o.fit _ (Zl hlt);have hcn:=HC.o.next _ (Zl hlt);have hev:=Jz hlt;have hin:=HZ.o.2 k hlt;obtain⟨⟨nm,kd,sa,sb,cp,⟨nxo,nxc,nx⟩⟩,ex⟩:∃v,v=el ts k:=⟨_,rfl⟩;rw[←ex]at d1 d2 d3 d4 d5 d6 hfk hev hin hcn;have HE:Zi (el (ts.map Zz) k=(nm,kd,sa,sb,cp,nx)):=hev;have HI:Zi (kI.In w1.1.size w1 nxo nx):=hin;have hki:(k:Int)<(ts.length:Int):=by omega
       clear ex hev hin;dsimp only at d1 d2 d3 d4 d5 d6 hfk hcn;have hB2:Below w1.1.size w1 (wr.alloc (.cells #[.string nm,.int .i64 kd,.int .i64 sa,.int .i64 sb,.int .i64 cp,.slice nxo nx.length nxc] 27)):=Zx hB _
       cases hnm:Zg kd sa sb
       ·have HNM:=Zd hnm;clear hnm;have HBK:=Zd (Cr (gs:=ts.map Zz) (i:=2) (k:=k) (by rw[Zb];exact hlt) (by simp only[Kn,Int.toNat_natCast];rw[HE.o];simp[HNM.o]));have HCD:=Zd (Xv HM.o (show 2<5 by decide) HBK.o (fun j hj=>by
          rcases(show j=0∨j=1 from by omega)with rfl|rfl
          ·exact HN0.o
          ·exact HN1.o))
        go_wp2_with fail;refine(Js kd sa sb _ false HNM.o).mono ?_;rintro e w2 ⟨rfl,rfl⟩;go_wp2;go_ret;exact⟨by rw[HCD.o];rfl,Zx hB2 _⟩
       ·have HNM:=Zd hnm;clear hnm;go_wp2_with fail;refine(Js kd sa sb _ true HNM.o).mono ?_;rintro e w2 ⟨rfl,rfl⟩;go_wp2;go_roundw
        case rel =>
         refine⟨k+1,by go_num,by omega,fun j hj=>?_,Zx hB2 _⟩
         rcases Nat.lt_succ_iff_lt_or_eq.1 hj with h|rfl
         ·exact hN.o j h
         ·simp only[Kn,Int.toNat_natCast];rw[HE.o];simp[HNM.o]
        case measure=>simp[intOf];omega
      ·obtain rfl:k=ts.length:=by omega
       have HN2:=Zd (brk_no (gs:=ts.map Zz) (i:=2) (fun k hk=>hN.o k (by rw[Zb]at hk;exact hk)));clear hN hlt hk;go_wp2
       go_loopw [68] (fun i wr=>∃k:Nat,i=.int .i64 (k:Int)∧k≤ts.length∧Zi (∀j:Nat,j<k→Kn (ts.map Zz) 3 (j:Int)=false)∧Below w1.1.size w1 wr) (fun i _=>ts.length-(intOf i).toNat)
       case atStart=>exact⟨0,rfl,Nat.zero_le _,fun j hj=>by omega,hB⟩
       case round =>
        clear hB;obtain⟨k,rfl,hk,hN,hB⟩:=hrel
        by_cases hlt:k<ts.length
        ·have d1:=(hB.cell (p:=⟨b,off+k*6,none⟩) hb).trans (HCL.o k hlt).1;have d2:=(hB.cell (p:=⟨b,off+k*6+1,none⟩) hb).trans (HCL.o k hlt).2.1;have d3:=(hB.cell (p:=⟨b,off+k*6+2,none⟩) hb).trans (HCL.o k hlt).2.2.1;have d4:=(hB.cell (p:=⟨b,off+k*6+3,none⟩) hb).trans (HCL.o k hlt).2.2.2.1;have d5:=(hB.cell (p:=⟨b,off+k*6+4,none⟩) hb).trans (HCL.o k hlt).2.2.2.2.1;have d6:=(hB.cell (p:=⟨b,off+k*6+5,none⟩) hb).trans (HCL.o k hlt).2.2.2.2.2;have hfk:=HC.o.fit _ (Zl hlt);have hcn:=HC.o.next _ (Zl hlt);have hev:=Jz hlt;have hin:=HZ.o.2 k hlt;obtain⟨⟨nm,kd,sa,sb,cp,⟨nxo,nxc,nx⟩⟩,ex⟩:∃v,v=el ts k:=⟨_,rfl⟩;rw[←ex]at d1 d2 d3 d4 d5 d6 hfk hev hin hcn;have HE:Zi (el (ts.map Zz) k=(nm,kd,sa,sb,cp,nx)):=hev;have HI:Zi (kI.In w1.1.size w1 nxo nx):=hin;have hki:(k:Int)<(ts.length:Int):=by omega
         clear ex hev hin;dsimp only at d1 d2 d3 d4 d5 d6 hfk hcn;have hB2:Below w1.1.size w1 (wr.alloc (.cells #[.string nm,.int .i64 kd,.int .i64 sa,.int .i64 sb,.int .i64 cp,.slice nxo nx.length nxc] 27)):=Zx hB _
         cases hnm:(decide (3≤cp) && decide (cp≤8))
         ·have HNM:=Zd hnm;clear hnm;have HBK:=Zd (Cr (gs:=ts.map Zz) (i:=3) (k:=k) (by rw[Zb];exact hlt) (by simp only[Kn,Int.toNat_natCast,HE.o];have h:=HNM.o;simp at h ⊢;omega));have HCD:=Zd (Xv HM.o (show 3<5 by decide) HBK.o (fun j hj=>by
            rcases(show j=0∨j=1∨j=2 from by omega)with rfl|rfl|rfl
            ·exact HN0.o
            ·exact HN1.o
            ·exact HN2.o))
          go_wp2_with fail;refine(Zr cp 3 8 _ false HNM.o).mono ?_;rintro e w2 ⟨rfl,rfl⟩;go_wp2;go_ret;exact⟨by rw[HCD.o];rfl,hB2⟩
         ·have HNM:=Zd hnm;clear hnm;go_wp2_with fail;refine(Zr cp 3 8 _ true HNM.o).mono ?_;rintro e w2 ⟨rfl,rfl⟩;go_wp2;go_roundw
          case rel =>
           refine⟨k+1,by go_num,by omega,fun j hj=>?_,hB2⟩
           rcases Nat.lt_succ_iff_lt_or_eq.1 hj with h|rfl
           ·exact hN.o j h
           ·simp only[Kn,Int.toNat_natCast,HE.o];have h:=HNM.o;simp at h ⊢;omega
          case measure=>simp[intOf];omega
        ·obtain rfl:k=ts.length:=by omega
         have HN3:=Zd (brk_no (gs:=ts.map Zz) (i:=3) (fun k hk=>hN.o k (by rw[Zb]at hk;exact hk)));clear hN hlt hk;go_wp2
         go_loopw [79] (fun i wr=>∃k:Nat,i=.int .i64 (k:Int)∧k≤ts.length∧Zi (∀j:Nat,j<k→Kn (ts.map Zz) 4 (j:Int)=false)∧Below w1.1.size w1 wr) (fun i _=>ts.length-(intOf i).toNat)
         case atStart=>exact⟨0,rfl,Nat.zero_le _,fun j hj=>by omega,hB⟩
         case round =>
          clear hB;obtain⟨k,rfl,hk,hN,hB⟩:=hrel
          by_cases hlt:k<ts.length
          ·have d1:=(hB.cell (p:=⟨b,off+k*6,none⟩) hb).trans (HCL.o k hlt).1;have d2:=(hB.cell (p:=⟨b,off+k*6+1,none⟩) hb).trans (HCL.o k hlt).2.1;have d3:=(hB.cell (p:=⟨b,off+k*6+2,none⟩) hb).trans (HCL.o k hlt).2.2.1;have d4:=(hB.cell (p:=⟨b,off+k*6+3,none⟩) hb).trans (HCL.o k hlt).2.2.2.1;have d5:=(hB.cell (p:=⟨b,off+k*6+4,none⟩) hb).trans (HCL.o k hlt).2.2.2.2.1;have d6:=(hB.cell (p:=⟨b,off+k*6+5,none⟩) hb).trans (HCL.o k hlt).2.2.2.2.2;have hfk:=HC.o.fit _ (Zl hlt);have hcn:=HC.o.next _ (Zl hlt);have hev:=Jz hlt;have hin:=HZ.o.2 k hlt;obtain⟨⟨nm,kd,sa,sb,cp,⟨nxo,nxc,nx⟩⟩,ex⟩:∃v,v=el ts k:=⟨_,rfl⟩;rw[←ex]at d1 d2 d3 d4 d5 d6 hfk hev hin hcn;have HE:Zi (el (ts.map Zz) k=(nm,kd,sa,sb,cp,nx)):=hev;have HI:Zi (kI.In w1.1.size w1 nxo nx):=hin;have hki:(k:Int)<(ts.length:Int):=by omega
           clear ex hev hin;dsimp only at d1 d2 d3 d4 d5 d6 hfk hcn;obtain⟨V,hV⟩:=nmd (wr.alloc (.cells #[.string nm,.int .i64 kd,.int .i64 sa,.int .i64 sb,.int .i64 cp,.slice nxo nx.length nxc] 27));have hbV:Below wr.1.size wr V:=by rw[hV];exact Zk _ _
           have XV:Zi (Bx V wr.1.size [.string nm,.int .i64 kd,.int .i64 sa,.int .i64 sb,.int .i64 cp,.slice nxo nx.length nxc]):=by rw[hV];exact Bx.new [.string nm,.int .i64 kd,.int .i64 sa,.int .i64 sb,.int .i64 cp,.slice nxo nx.length nxc] _ rfl
           have hBV:Below w1.1.size w1 V:=hB.trans (hbV.mono hB.size);have HV:=Zd hV;clear hV hbV;go_wp2;rw[←HV.o];obtain⟨pb,hpb⟩:=nmd (wr.1.size);rw[←hpb]at XV ⊢;clear hpb HV d1 d2 d3 d4 d5 d6
           go_loopw [86] (fun i wr=>∃m:Nat,i=.int .i64 (m:Int)∧m≤nx.length∧Zi ((nx.take m).Nodup∧∀j:Nat,j<m→0≤el nx j∧el nx j<(ts.length:Int))∧Zi (Bx wr pb [.string nm,.int .i64 kd,.int .i64 sa,.int .i64 sb,.int .i64 cp,.slice nxo nx.length nxc])∧Below w1.1.size w1 wr) (fun i _=>nx.length-(intOf i).toNat)
           case atStart=>exact⟨0,rfl,Nat.zero_le _,⟨by simp,fun j hj=>by omega⟩,XV,hBV⟩
           case round =>
            clear hBV XV hB;obtain⟨m,rfl,hm,hA,hX,hB⟩:=hrel;have x5:=hX.o.c 5 rfl
            by_cases hmk:m<nx.length
            ·obtain⟨nb,noff,rfl,hnb,hnc⟩:=Zo HI.o hmk;have cm:=(hB.cell (p:=⟨nb,noff+m,none⟩) hnb).trans (hnc m hmk);obtain⟨x,hx⟩:=nmd (el nx m);rw[←hx]at cm;have HX:=Zd hx;have hmi:(m:Int)<(nx.length:Int):=by omega
             have hmc:(m:Int)≤(nxc:Int):=by omega
             clear hx hnc
             cases hr:(decide (0≤x) && decide (x≤(ts.length:Int)-1))
             ·have HR:=Zd hr;clear hr;have HBK:=Zd (Cr (gs:=ts.map Zz) (i:=4) (k:=k) (by rw[Zb];exact hlt) (by simp only[Kn,Int.toNat_natCast];rw[HE.o,Zb];simp only[Bool.not_eq_true'];refine Bool.eq_false_iff.2 fun h=>?_;have h2:=(Wz.1 h).1 _ (Zl hmk);have h3:=HR.o;rw[HX.o]at h3;simp at h3;omega));have HCD:=Zd (Xv HM.o (show 4<5 by decide) HBK.o (fun j hj=>by
                rcases(show j=0∨j=1∨j=2∨j=3 from by omega)with rfl|rfl|rfl|rfl
                ·exact HN0.o
                ·exact HN1.o
                ·exact HN2.o
                ·exact HN3.o))
              go_wp2_with fail;refine(Zr x 0 ((ts.length:Int)-1) _ false HR.o).mono ?_;rintro e w2 ⟨rfl,rfl⟩;go_wp2;go_ret;exact⟨by rw[HCD.o];rfl,hB⟩
             ·have HR:=Zd hr;clear hr
              cases hh:Wr (nx.take m) x
              ·have HH:=Zd hh;clear hh;go_wp2_with fail;refine(Zr x 0 ((ts.length:Int)-1) _ true HR.o).mono ?_;rintro e w2 ⟨rfl,rfl⟩;go_wp2_with fail;refine(l1Has_of w2.1.size (some ⟨nb,noff,none⟩) m nxc (nx.take m) x w2 false (by simp;omega) (by simp;omega) ((HI.o.later hB).take m) HH.o).mono ?_;rintro e w3 ⟨rfl,rfl⟩;go_wp2;go_roundw
               case rel =>
                refine⟨m+1,by go_num,by omega,⟨Fm hmk hA.o.1 (by rw[←HX.o];simpa[Wr]using HH.o),fun j hj=>?_⟩,hX,hB⟩
                rcases Nat.lt_succ_iff_lt_or_eq.1 hj with h|rfl
                ·exact hA.o.2 j h
                ·rw[←HX.o];have h3:=HR.o;simp at h3;omega
               case measure=>simp[intOf];omega
              ·have HH:=Zd hh;clear hh;have HBK:=Zd (Cr (gs:=ts.map Zz) (i:=4) (k:=k) (by rw[Zb];exact hlt) (by simp only[Kn,Int.toNat_natCast];rw[HE.o,Zb];simp only[Bool.not_eq_true'];refine Bool.eq_false_iff.2 fun h=>?_;exact Nz hmk (Wz.1 h).2 (by rw[←HX.o];simpa[Wr]using HH.o)));have HCD:=Zd (Xv HM.o (show 4<5 by decide) HBK.o (fun j hj=>by
                 rcases(show j=0∨j=1∨j=2∨j=3 from by omega)with rfl|rfl|rfl|rfl
                 ·exact HN0.o
                 ·exact HN1.o
                 ·exact HN2.o
                 ·exact HN3.o))
               go_wp2_with fail;refine(Zr x 0 ((ts.length:Int)-1) _ true HR.o).mono ?_;rintro e w2 ⟨rfl,rfl⟩;go_wp2_with fail;refine(l1Has_of w2.1.size (some ⟨nb,noff,none⟩) m nxc (nx.take m) x w2 true (by simp;omega) (by simp;omega) ((HI.o.later hB).take m) HH.o).mono ?_;rintro e w3 ⟨rfl,rfl⟩;go_wp2;go_ret;exact⟨by rw[HCD.o];rfl,hB⟩
            ·obtain rfl:m=nx.length:=by omega
             clear hmk;have HGN:Zi (Vm nx (ts.length:Int)=true):=Wz.2 ⟨fun x hx=>by obtain⟨j,hj,rfl⟩:=Gx hx;exact hA.o.2 j hj,by have:=hA.o.1;rwa [List.take_length]at this⟩;go_wp2;go_roundw
             case rel =>
              refine⟨k+1,by go_num,by omega,fun j hj=>?_,hB⟩
              rcases Nat.lt_succ_iff_lt_or_eq.1 hj with h|rfl
              ·exact hN.o j h
              ·simp only[Kn,Int.toNat_natCast];rw[HE.o,Zb];simp[HGN.o]
             case measure=>simp[intOf];omega
          ·obtain rfl:k=ts.length:=by omega
           have HN4:=Zd (brk_no (gs:=ts.map Zz) (i:=4) (fun k hk=>hN.o k (by rw[Zb]at hk;exact hk)));clear hN hlt hk;go_wp2;have HED:=Zd (Nv (gs:=ts.map Zz) (by rw[Zb];exact h10) HN4.o);have HRS:Zi (Qa (ts.map Zz)=if(Zv (ts.map Zz)).length<(ts.map Zz).length then 7 else 0):=Tt HM.o (fun j hj=>by
            rcases(show j=0∨j=1∨j=2∨j=3∨j=4 from by omega)with rfl|rfl|rfl|rfl|rfl
            ·exact HN0.o
            ·exact HN1.o
            ·exact HN2.o
            ·exact HN3.o
            ·exact HN4.o)
           go_loopw [109] (fun i wr=>∃k:Nat,i=.int .i64 (k:Int)∧k≤ts.length∧Zi (∀j:Nat,j<k→¬Rch (ts.map Zz) j j)∧Below w1.1.size w1 wr) (fun i _=>ts.length-(intOf i).toNat)
           case atStart=>exact⟨0,rfl,Nat.zero_le _,fun j hj=>by omega,hB⟩
           case round =>
            clear hB;obtain⟨k,rfl,hk,hN,hB⟩:=hrel
            by_cases hlt:k<ts.length
            ·go_wp2_with fail;refine(l11Reach_is (some ⟨b,off,none⟩) cap ts k k wr HC.o.fit HED.o hlt (HZ.o.later Zf hB)).mono ?_;rintro e w2 ⟨⟨r,rfl,hr⟩,hb2⟩;have hB2:=hB.trans (hb2.mono hB.size);have HR:=Zd hr;clear hb2 hr
             cases r
             ·go_wp2;go_roundw
              case rel =>
               refine⟨k+1,by go_num,by omega,fun j hj=>?_,hB2⟩
               rcases Nat.lt_succ_iff_lt_or_eq.1 hj with h|rfl
               ·exact hN.o j h
               ·intro h;have:=HR.o.2 h;cases this
              case measure=>simp[intOf];omega
             ·have HCD:Zi (Qa (ts.map Zz)=7):=by
               rw[Zi,HRS.o,if_pos ((Mk HED.o).2 ⟨k,by rw[Zb];exact hlt,HR.o.1 rfl⟩)]
              go_wp2;go_ret;exact⟨by rw[HCD.o];rfl,hB2⟩
            ·obtain rfl:k=ts.length:=by omega
             have HCD:Zi (Qa (ts.map Zz)=0):=by
              rw[Zi,HRS.o,if_neg (fun h=>by obtain⟨i,hi,hr⟩:=(Mk HED.o).1 h;exact hN.o i (by rw[Zb]at hi;exact hi) hr)]
             go_wp2;go_ret;exact⟨by rw[HCD.o];rfl,hB⟩
theorem Jw{gs:List PNode}(h:Qa gs=0):¬(gs.length<1∨10<gs.length)∧(∀j,j<5→brk gs j=false)∧¬(Zv gs).length<gs.length:=by
 have hm:¬(gs.length<1∨10<gs.length):=fun e=>by rw[Nw e]at h;cases h
 have hall:∀i,i≤5→∀j,j<i→brk gs j=false:=fun i=>by
  induction i with
  |zero=>intro _ j hj;omega
  |succ i ih =>
   intro hi j hj;have hprev:=ih (by omega)
   rcases Nat.lt_succ_iff_lt_or_eq.1 hj with h1|rfl
   ·exact hprev j h1
   ·cases hb:brk gs j with
    |false=>rfl
    |true=>rw[Xv hm (by omega) hb hprev]at h;omega
 refine⟨hm,hall 5 (Nat.le_refl _),fun ho=>?_⟩;rw[Tt hm (hall 5 (Nat.le_refl _)),if_pos ho]at h
 cases h
def Ds(gs:List PNode)(k:Nat)(x:Nat):Nat:=((gs.take k).map fun a=>a.2.2.2.2.2.count (x:Int)).sum
theorem Mg{gs:List PNode}{k:Nat}(hk:k<gs.length)(x:Nat):Ds gs (k+1) x=Ds gs k x+(nxP gs k).count (x:Int):=by
 rw[Ds,Zy hk];simp[Ds,nxP]
theorem ledC_le{gs:List PNode}(hE:EdgesIn gs)(x:Nat):∀k,k≤gs.length→Ds gs k x≤10*k
 |0,_=>by simp[Ds]
 |k+1,hk=>by
  have h1:=ledC_le hE x k (by omega);have h2:=hE.few k (by omega);have h3:(nxP gs k).count (x:Int)≤(nxP gs k).length:=List.count_le_length;rw[Mg (by omega)];omega
def Dd(gs:List PNode)(k:Nat)(nx:List Int):List Int:=(List.range gs.length).map fun x:Nat=>((Ds gs k x+nx.count (x:Int):Nat):Int)
theorem Hu(gs:List PNode)(k:Nat)(nx:List Int):(Dd gs k nx).length=gs.length:=by simp[Dd]
theorem Mf{gs:List PNode}{x:Nat}(hx:x<gs.length)(k:Nat)(nx:List Int):el (Dd gs k nx) x=((Ds gs k x+nx.count (x:Int):Nat):Int):=by simp[Dd,el,hx]
theorem ledL_step{gs:List PNode}{j:Nat}(_hj:j<gs.length)(k:Nat)(nx:List Int):(Dd gs k nx).set j (((Ds gs k j+nx.count (j:Int):Nat):Int)+1)=Dd gs k (nx++[(j:Int)]):=by
 refine List.ext_getElem (by simp[Dd]) fun i h1 h2=>?_
 have hi:i<gs.length:=by simpa[Dd]using h2
 rw[List.getElem_set]
 by_cases e:j=i
 ·subst e;simp[Dd,List.count_append];omega
 ·rw[if_neg e];have hne:((j:Nat):Int)≠((i:Nat):Int):=by omega
  simp[Dd,List.count_append,List.count_singleton,hne]
theorem ledL_next{gs:List PNode}{k:Nat}(hk:k<gs.length):Dd gs k (nxP gs k)=Dd gs (k+1) []:=by
 simp only[Dd,Mg hk];simp
theorem ledL_zero(gs:List PNode):Dd gs 0 []=List.replicate gs.length 0:=by
 refine List.ext_getElem (by simp[Dd]) fun i h1 h2=>?_
 simp[Dd,Ds]
theorem Yr(l:List Int)(k:Nat)(x:Int):(l.set k x).map (Value.int .i64)=(l.map (Value.int .i64)).set k (.int .i64 x):=by rw[List.map_set]
theorem Jq{l:List Int}{k:Nat}(hk:k<l.length):(l.map (Value.int .i64))[k]? = some (.int .i64 (el l k)):=by rw[List.getElem?_map,List.getElem?_eq_getElem hk,Km hk];rfl
theorem rep_mapI(n:Nat):(List.replicate n (0:Int)).map (Value.int .i64)=List.replicate n (Value.int .i64 0):=by simp
theorem bx_in{W:World}{g:Nat}{l:List Int}(h:Bx W g (l.map (Value.int .i64))):kI.In W.1.size W (some ⟨g,0,none⟩) l :=
 To h.size fun j hj=>by rw[Nat.zero_add];exact h.c j (Jq hj)
theorem l11Led_is(ao:Option Addr)(cap:Nat)(ts:List LNode)(w:World)(hE:EdgesIn (ts.map Zz))(hz:DIn Ja w.1.size w ao ts) :
  Calls prog 217 #[.slice ao ts.length cap] w fun e w'=>e=.returned (.slice (some ⟨w.1.size,0,none⟩) ts.length ts.length)∧Bx w' w.1.size ((Dd (ts.map Zz) ts.length []).map (Value.int .i64))∧Below w.1.size w w':=by
 obtain⟨i0,hi,hz0,hz1,hz2⟩:=info_parts Tryz.info3;have h10:ts.length≤10:=by have:=hE.many;simpa using this
 have HE:=Zd hE;have HZ:=Zd hz;clear hz hE;go_enter func217,ntmps217;go_wp2_with (at_make;refine wpList_make_full _ rfl _ _ 25 rfl w.1.size 3 i0 (.int .i64 0) 1 underlying25 hi hz0 hz1 .i64 .i64 _ _ ts.length rfl rfl rfl rfl (by rw[hz2];omega) (by unfold maxLen;omega) (Nat.le_refl _) ?_;intro w1 hown hgrow;have hB1:Below w.1.size w w1:=(Below.refl _ _).grown hgrow (Nat.le_refl _) (fun k e=>by cases e);have HO:=Zd (Hs hown);clear hown hgrow);have HO1:Zi (Bx w1 w.1.size ((Dd (ts.map Zz) 0 []).map (Value.int .i64))):=by
  have h:Bx w1 w.1.size (madeCells #[Value.int .i64 0] (ts.length*1)).toList:=HO.o;rw[toList_madeCells_one,Nat.mul_one]at h;rw[Zi,ledL_zero,rep_mapI,Zb];exact h
 clear HO
 go_loopw [13] (fun i wr=>∃k:Nat,i=.int .i64 (k:Int)∧k≤ts.length∧Zi (Bx wr w.1.size ((Dd (ts.map Zz) k []).map (Value.int .i64)))∧Below w.1.size w wr) (fun i _=>ts.length-(intOf i).toNat)
 case atStart=>exact⟨0,rfl,Nat.zero_le _,HO1,hB1⟩
 case round =>
  clear hB1 HO1;obtain⟨k,rfl,hk,hO,hB⟩:=hrel
  by_cases hlt:k<ts.length
  ·obtain⟨b,off,rfl,hb,hc⟩:=Qw HZ.o.1 hlt;have d1:=(hB.cell (p:=⟨b,off+k*6,none⟩) hb).trans (hc k hlt).1;have d2:=(hB.cell (p:=⟨b,off+k*6+1,none⟩) hb).trans (hc k hlt).2.1;have d3:=(hB.cell (p:=⟨b,off+k*6+2,none⟩) hb).trans (hc k hlt).2.2.1;have d4:=(hB.cell (p:=⟨b,off+k*6+3,none⟩) hb).trans (hc k hlt).2.2.2.1;have d5:=(hB.cell (p:=⟨b,off+k*6+4,none⟩) hb).trans (hc k hlt).2.2.2.2.1;have d6:=(hB.cell (p:=⟨b,off+k*6+5,none⟩) hb).trans (hc k hlt).2.2.2.2.2;have hev:=Jz hlt;have hin:=HZ.o.2 k hlt;obtain⟨⟨nm,kd,sa,sb,cp,⟨nxo,nxc,nx⟩⟩,ex⟩:∃v,v=el ts k:=⟨_,rfl⟩;rw[←ex]at d1 d2 d3 d4 d5 d6 hev hin;have HX:Zi (nxP (ts.map Zz) k=nx):=by rw[Zi,nxP,hev];rfl
   have HI:Zi (kI.In w.1.size w nxo nx):=hin;have hnl:nx.length≤10:=by rw[←HX.o];exact HE.o.few k (by rw[Zb];exact hlt)
   have hki:(k:Int)<(ts.length:Int):=by omega
   clear ex hev hin hc;dsimp only at d1 d2 d3 d4 d5 d6;obtain⟨V,hV⟩:=nmd (wr.alloc (.cells #[.string nm,.int .i64 kd,.int .i64 sa,.int .i64 sb,.int .i64 cp,.slice nxo nx.length nxc] 27));have hbV:Below wr.1.size wr V:=by rw[hV];exact Zk _ _
   have XV:=Zd (hO.o.later hbV);have hBV:Below w.1.size w V:=hB.trans (hbV.mono hB.size);have HV:=Zd hV;clear hV hbV;go_wp2;rw[←HV.o];obtain⟨pb,hpb⟩:=nmd (wr.1.size);rw[←hpb];clear hpb HV d1 d2 d3 d4 d5 d6 hO
   go_loopw [20] (fun i wr=>∃m:Nat,i=.int .i64 (m:Int)∧m≤nx.length∧Zi (Bx wr w.1.size ((Dd (ts.map Zz) k (nx.take m)).map (Value.int .i64)))∧Below w.1.size w wr) (fun i _=>nx.length-(intOf i).toNat)
   case atStart=>exact⟨0,rfl,Nat.zero_le _,by rw[List.take_zero];exact XV,hBV⟩
   case round =>
    clear hBV XV hB;obtain⟨m,rfl,hm,hX,hB⟩:=hrel
    by_cases hmk:m<nx.length
    ·obtain⟨nb,noff,rfl,hnb,hnc⟩:=Zo HI.o hmk;have cm:=(hB.cell (p:=⟨nb,noff+m,none⟩) hnb).trans (hnc m hmk);obtain⟨j,hj,hx⟩:=HE.o.rng k (by rw[Zb];exact hlt) (el nx m) (by rw[HX.o];exact Zl hmk);rw[Zb]at hj;rw[hx]at cm;have HXJ:=Zd hx;clear hx hnc;have hmi:(m:Int)<(nx.length:Int):=by omega
     have hji:(j:Int)<(ts.length:Int):=by omega
     have hjv:j<(ts.map Zz).length:=by rw[Zb];exact hj
     have cj:=hX.o.c j (Jq (by rw[Hu];exact hjv));have fj:=hX.o.f j (Jq (by rw[Hu];exact hjv));rw[Mf hjv]at cj;have hq1:=ledC_le HE.o j k (by rw[Zb];omega);have hq2:(nx.take m).count (j:Int)≤m:=Nat.le_trans List.count_le_length (by simp;omega);have HST:=Zd (ledL_step hjv k (nx.take m));rw[←HXJ.o,←Zy hmk]at HST;obtain⟨q,hq⟩:=nmd (Ds (ts.map Zz) k j+(nx.take m).count (j:Int));rw[HXJ.o,←hq]at HST;rw[←hq]at cj;have hq3:q≤1000:=by omega
     clear hq hq1 hq2;have HS:=Zd (hX.o.set j (.int .i64 ((q:Int)+1)));rw[←Yr,HST.o]at HS;have hB2:=hB.setCell (p:=⟨w.1.size,j,none⟩) (Nat.le_refl _) (.int .i64 ((q:Int)+1));go_wp2;go_roundw
     case rel=>exact⟨m+1,by go_num,by omega,HS,hB2⟩
     case measure=>simp[intOf];omega
    ·obtain rfl:m=nx.length:=by omega
     have HS:Zi (Bx wr w.1.size ((Dd (ts.map Zz) (k+1) []).map (Value.int .i64))):=by
      have h:=hX.o;rw[List.take_length,←HX.o,ledL_next (by rw[Zb];exact hlt)]at h;exact h
     go_wp2;go_roundw
     case rel=>exact⟨k+1,by go_num,by omega,HS,hB⟩
     case measure=>simp[intOf];omega
  ·obtain rfl:k=ts.length:=by omega
   go_wp2;go_ret;exact⟨rfl,hO.o,hB⟩
def Ke(gs:List PNode)(k:Nat):List Int:=(Qh k).filter fun x=>decide (Ds gs gs.length x.toNat=0)
theorem srcP_succ(gs:List PNode)(k:Nat):Ke gs (k+1)=if Ds gs gs.length k=0 then Ke gs k++[(k:Int)]else Ke gs k:=by
 rw[Ke,Te,List.filter_append]
 by_cases h:Ds gs gs.length k=0
 ·rw[if_pos h];simp[Ke,h]
 ·rw[if_neg h];simp[Ke,h]
theorem srcP_len(gs:List PNode)(k:Nat):(Ke gs k).length≤k:=Nat.le_trans (List.length_filter_le _ _) (by rw[Qd];exact Nat.le_refl _)
theorem l11Sources_is(ao:Option Addr)(cap:Nat)(ts:List LNode)(w:World)(hE:EdgesIn (ts.map Zz))(hz:DIn Ja w.1.size w ao ts) :
  Calls prog 213 #[.slice ao ts.length cap] w fun e w'=>AnsI w (Ke (ts.map Zz) ts.length) e w':=by
 have h10:ts.length≤10:=by have:=hE.many;simpa using this
 have hcon:=l11Led_is ao cap ts w hE hz;have HE:=Zd hE;clear hz hE;go_enter func213,ntmps213;go_wp2_with (go_at_call 217;refine hcon.mono ?_;rintro e w1 ⟨rfl,hX1,hB1⟩;have X1:=Zd hX1;clear hX1);have HS1:=Zd X1.o.size
 go_loopw [3,9] (fun u i wr=>∃(k:Nat)(v:Value),v=u∧k≤ts.length∧i=.int .i64 k∧Zi (kI.Own w1.1.size wr v (Ke (ts.map Zz) k))∧Below w1.1.size w1 wr) (fun _ i _=>ts.length-(intOf i).toNat)
 case atStart=>exact⟨0,_,rfl,Nat.zero_le _,rfl,Kind.Own.nil _ _ _,Below.refl _ _⟩
 case round =>
  obtain⟨k,v,rfl,hk,rfl,hO,hB⟩:=hrel;have hBw:Below w.1.size w wr:=hB1.trans (hB.mono hB1.size)
  by_cases hlt:k<ts.length
  ·have hkv:k<(ts.map Zz).length:=by rw[Zb];exact hlt
   have hs:=hB.size;have cj:=(X1.o.later hB).c k (Jq (by rw[Hu];exact hkv));rw[Mf hkv]at cj;simp only[List.count_nil,Nat.add_zero]at cj;have hki:(k:Int)<(ts.length:Int):=by omega
   have hll:(Ke (ts.map Zz) k).length+1≤4194304:=by have:=srcP_len (ts.map Zz) k;omega
   have HSS:=Zd (srcP_succ (ts.map Zz) k);rw[Zb]at HSS
   by_cases h0:Ds (ts.map Zz) ts.length k=0
   ·rw[if_pos h0]at HSS;rw[h0]at cj;clear h0;have HA:Zi (kI.Own w1.1.size (wr.alloc (.cells #[.int .i64 (k:Int)] 3)) v (Ke (ts.map Zz) k)):=hO.o.below (Zk _ _);have HN:Zi (kI.In (wr.1.size+1) (wr.alloc (.cells #[.int .i64 (k:Int)] 3)) (some ⟨wr.1.size,0,none⟩) [(k:Int)]):=Kc (by omega) (by simp);have hBa:Below w1.1.size w1 (wr.alloc (.cells #[.int .i64 (k:Int)] 3)):=Zx hB _;go_wp2_with (at_builtin;refine Kind.app Vq (wr.alloc (.cells #[.int .i64 (k:Int)] 3)) rfl (.tmp 16) (.tmp 18) rfl w1.1.size v (Ke (ts.map Zz) k) rfl HA.o (by simp;omega) (some ⟨wr.1.size,0,none⟩) [(k:Int)] 1 1 rfl rfl (by simp) _ HN.o hll ?_;intro v' w' hO' hB' hG' hn';have hB2:Below w1.1.size w1 w':=hBa.trans (hB'.mono (by omega));have HO':Zi (kI.Own w1.1.size w' v' (Ke (ts.map Zz) (k+1))):=(by rw[Zi,HSS.o];exact hO');clear hO' hB' hG' hn');go_roundw
    case rel=>exact⟨k+1,v',rfl,by omega,by go_num,HO',hB2⟩
    case measure=>simp[intOf];omega
   ·rw[if_neg h0]at HSS;have hne:(((Ds (ts.map Zz) ts.length k:Nat):Int)==0)=false:=by simp;omega
    rw[←HSS.o]at hO;go_wp2;go_roundw
    case rel=>exact⟨k+1,_,rfl,by omega,by go_num,hO,hB⟩
    case measure=>simp[intOf];omega
  ·obtain rfl:k=ts.length:=by omega
   obtain⟨qo,qc,rfl,_,hF⟩:=hO.o.fresh;have HF:=Zd (hF.wide (lo':=w.1.size) (hi':=wr.1.size) hB1.size (Nat.le_refl _));clear hF hO;go_wp2;go_ret;exact⟨⟨_,_,rfl,HF.o⟩,hBw⟩
end Go.Proofs.YtdacedbfnlkghaaGreatDoor