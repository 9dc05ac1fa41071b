/- Stages: what the program finds good, and how many come out. Stages: GoodStage and FactorOf on both sides, and their laws' walks. Stages: what a stage makes of a value, on both sides. No conditions but those written. -/
import Derived.Test.YtdacedbfnlkghaaGreatDoorQAoSh
import Derived.Deep.Cut
namespace Go.Proofs.YtdacedbfnlkghaaGreatDoor
set_option maxHeartbeats 4000000
open Go.RowKit Go.Proofs.Tryz
theorem Vy(a b:Int)(w:World)(hg:Zg 1 a b=true) :
  Calls prog 94 #[.agg #[.int .i64 1,.int .i64 a,.int .i64 b]] w fun e w'=>e=.returned (.tuple #[.agg #[.func (.func 144) #[] #[],.func (.func 145) #[] #[],.func (.func 146) #[] #[]],.bool true])∧Below w.1.size w w':=by
 have HG:=Zd hg;clear hg;obtain⟨w0,hw0⟩:=nmd ((w.alloc (.cells #[.int .i64 1,.int .i64 a,.int .i64 b] 24)).alloc (.cells #[.nilFunc,.nilFunc,.nilFunc] 147));have hB0:Below w.1.size w w0:=by rw[hw0];exact Qh _ _ _
 have XS0:Zi (Bx w0 w.1.size [.int .i64 1,.int .i64 a,.int .i64 b]):=by rw[hw0];exact Bx.alloc (Bx.new [.int .i64 1,.int .i64 a,.int .i64 b] _ rfl) _
 have XR0:Zi (Bx w0 (w.1.size+1) [.nilFunc,.nilFunc,.nilFunc]):=by rw[hw0];exact Bx.new [.nilFunc,.nilFunc,.nilFunc] _ (by simp)
 have H0:=Zd hw0;clear hw0;go_enter func94,ntmps94;go_wp2_with fail;rw[←H0.o];refine(Sk a b w0).mono ?_;rintro e w1 ⟨rfl,hb1⟩;have hB1:=hB0.trans (hb1.mono hB0.size);have XS1:=Zd ((XS0.o.later hb1).alloc (.cells #[.func (.func 144) #[] #[],.func (.func 145) #[] #[],.func (.func 146) #[] #[]] 147));have XR1:=Zd ((XR0.o.later hb1).alloc (.cells #[.func (.func 144) #[] #[],.func (.func 145) #[] #[],.func (.func 146) #[] #[]] 147));have XK1:=Zd (Bx.new (w:=w1) (p:=w1.1.size) [.func (.func 144) #[] #[],.func (.func 145) #[] #[],.func (.func 146) #[] #[]] 147 rfl);have hB2:=Zx hB1 (.cells #[.func (.func 144) #[] #[],.func (.func 145) #[] #[],.func (.func 146) #[] #[]] 147);clear XS0 XR0 hb1 hB1 hB0 H0;obtain⟨s0,s1,s2⟩:=XS1.o.y3;have r0:=XR1.o.f 0 rfl;have r1:=XR1.o.f 1 rfl;have r2:=XR1.o.f 2 rfl;obtain⟨k0,k1,k2⟩:=XK1.o.y3;have rz:=XR1.o.size;go_wp2_with fail;clear s0 s1 s2 r0 r1 r2 k0 k1 k2 rz;refine(Sv 1 a b _ true (HG.o)).mono ?_;rintro e w2 ⟨rfl,hw2⟩;have hb2:=Zk (w1.alloc (.cells #[.func (.func 144) #[] #[],.func (.func 145) #[] #[],.func (.func 146) #[] #[]] 147)) (.cells #[.int .i64 1,.int .i64 a,.int .i64 b] 24);rw[←hw2]at hb2;have HW2:=Zd hw2;clear hw2;have XR2:=Zd (XR1.o.later hb2);have XK2:=Zd (XK1.o.later hb2);have hB3:=hB2.trans (hb2.mono hB2.size);clear XS1 XR1 XK1 hb2 hB2 HW2;have r0:=XR2.o.f 0 rfl;have r1:=XR2.o.f 1 rfl;have r2:=XR2.o.f 2 rfl;obtain⟨c0,c1,c2⟩:=XR2.o.y3;obtain⟨k0,k1,k2⟩:=XK2.o.y3;have rz:=XR2.o.size;go_wp2;exact bodyPost_ret (v:=.tuple #[.agg #[.func (.func 144) #[] #[],.func (.func 145) #[] #[],.func (.func 146) #[] #[]],.bool true]) (by simp[results,results94,go_sem,c0,c1,c2]) rfl ⟨rfl,((hB3|> bbs)|> bbs).setCell (p:=⟨w.1.size+1,2,none⟩) (by dsimp only;omega) _⟩
theorem Bt(a b:Int)(w:World)(hg:Zg 1 a b=false) :
  Calls prog 94 #[.agg #[.int .i64 1,.int .i64 a,.int .i64 b]] w fun e w'=>e=.returned (.tuple #[.agg #[.nilFunc,.nilFunc,.nilFunc],.bool false])∧Below w.1.size w w':=by
 have HG:=Zd hg;clear hg;obtain⟨w0,hw0⟩:=nmd ((w.alloc (.cells #[.int .i64 1,.int .i64 a,.int .i64 b] 24)).alloc (.cells #[.nilFunc,.nilFunc,.nilFunc] 147));have hB0:Below w.1.size w w0:=by rw[hw0];exact Qh _ _ _
 have XS0:Zi (Bx w0 w.1.size [.int .i64 1,.int .i64 a,.int .i64 b]):=by rw[hw0];exact Bx.alloc (Bx.new [.int .i64 1,.int .i64 a,.int .i64 b] _ rfl) _
 have XR0:Zi (Bx w0 (w.1.size+1) [.nilFunc,.nilFunc,.nilFunc]):=by rw[hw0];exact Bx.new [.nilFunc,.nilFunc,.nilFunc] _ (by simp)
 have H0:=Zd hw0;clear hw0;go_enter func94,ntmps94;go_wp2_with fail;rw[←H0.o];refine(Sk a b w0).mono ?_;rintro e w1 ⟨rfl,hb1⟩;have hB1:=hB0.trans (hb1.mono hB0.size);have XS1:=Zd ((XS0.o.later hb1).alloc (.cells #[.func (.func 144) #[] #[],.func (.func 145) #[] #[],.func (.func 146) #[] #[]] 147));have XR1:=Zd ((XR0.o.later hb1).alloc (.cells #[.func (.func 144) #[] #[],.func (.func 145) #[] #[],.func (.func 146) #[] #[]] 147));have XK1:=Zd (Bx.new (w:=w1) (p:=w1.1.size) [.func (.func 144) #[] #[],.func (.func 145) #[] #[],.func (.func 146) #[] #[]] 147 rfl);have hB2:=Zx hB1 (.cells #[.func (.func 144) #[] #[],.func (.func 145) #[] #[],.func (.func 146) #[] #[]] 147);clear XS0 XR0 hb1 hB1 hB0 H0;obtain⟨s0,s1,s2⟩:=XS1.o.y3;have r0:=XR1.o.f 0 rfl;have r1:=XR1.o.f 1 rfl;have r2:=XR1.o.f 2 rfl;obtain⟨k0,k1,k2⟩:=XK1.o.y3;have rz:=XR1.o.size;go_wp2_with fail;clear s0 s1 s2 r0 r1 r2 k0 k1 k2 rz;refine(Sv 1 a b _ false (HG.o)).mono ?_;rintro e w2 ⟨rfl,hw2⟩;have hb2:=Zk (w1.alloc (.cells #[.func (.func 144) #[] #[],.func (.func 145) #[] #[],.func (.func 146) #[] #[]] 147)) (.cells #[.int .i64 1,.int .i64 a,.int .i64 b] 24);rw[←hw2]at hb2;have HW2:=Zd hw2;clear hw2;have XR2:=Zd (XR1.o.later hb2);have XK2:=Zd (XK1.o.later hb2);have hB3:=hB2.trans (hb2.mono hB2.size);clear XS1 XR1 XK1 hb2 hB2 HW2;have r0:=XR2.o.f 0 rfl;have r1:=XR2.o.f 1 rfl;have r2:=XR2.o.f 2 rfl;obtain⟨c0,c1,c2⟩:=XR2.o.y3;obtain⟨k0,k1,k2⟩:=XK2.o.y3;have rz:=XR2.o.size;go_wp2;exact bodyPost_ret (v:=.tuple #[.agg #[.nilFunc,.nilFunc,.nilFunc],.bool false]) (by simp[results,results94,go_sem,c0,c1,c2]) rfl ⟨rfl,((hB3|> bbs)|> bbs).setCell (p:=⟨w.1.size+1,2,none⟩) (by dsimp only;omega) _⟩
theorem Vw(a b:Int)(w:World)(hg:Zg 2 a b=true) :
  Calls prog 94 #[.agg #[.int .i64 2,.int .i64 a,.int .i64 b]] w fun e w'=>e=.returned (.tuple #[.agg #[.func (.func 147) #[] #[],.func (.func 148) #[] #[],.func (.func 146) #[] #[]],.bool true])∧Below w.1.size w w':=by
 have HG:=Zd hg;clear hg;obtain⟨w0,hw0⟩:=nmd ((w.alloc (.cells #[.int .i64 2,.int .i64 a,.int .i64 b] 24)).alloc (.cells #[.nilFunc,.nilFunc,.nilFunc] 147));have hB0:Below w.1.size w w0:=by rw[hw0];exact Qh _ _ _
 have XS0:Zi (Bx w0 w.1.size [.int .i64 2,.int .i64 a,.int .i64 b]):=by rw[hw0];exact Bx.alloc (Bx.new [.int .i64 2,.int .i64 a,.int .i64 b] _ rfl) _
 have XR0:Zi (Bx w0 (w.1.size+1) [.nilFunc,.nilFunc,.nilFunc]):=by rw[hw0];exact Bx.new [.nilFunc,.nilFunc,.nilFunc] _ (by simp)
 have H0:=Zd hw0;clear hw0;go_enter func94,ntmps94;go_wp2_with fail;rw[←H0.o];refine(Sj a b w0).mono ?_;rintro e w1 ⟨rfl,hb1⟩;have hB1:=hB0.trans (hb1.mono hB0.size);have XS1:=Zd ((XS0.o.later hb1).alloc (.cells #[.func (.func 147) #[] #[],.func (.func 148) #[] #[],.func (.func 146) #[] #[]] 147));have XR1:=Zd ((XR0.o.later hb1).alloc (.cells #[.func (.func 147) #[] #[],.func (.func 148) #[] #[],.func (.func 146) #[] #[]] 147));have XK1:=Zd (Bx.new (w:=w1) (p:=w1.1.size) [.func (.func 147) #[] #[],.func (.func 148) #[] #[],.func (.func 146) #[] #[]] 147 rfl);have hB2:=Zx hB1 (.cells #[.func (.func 147) #[] #[],.func (.func 148) #[] #[],.func (.func 146) #[] #[]] 147);clear XS0 XR0 hb1 hB1 hB0 H0;obtain⟨s0,s1,s2⟩:=XS1.o.y3;have r0:=XR1.o.f 0 rfl;have r1:=XR1.o.f 1 rfl;have r2:=XR1.o.f 2 rfl;obtain⟨k0,k1,k2⟩:=XK1.o.y3;have rz:=XR1.o.size;go_wp2_with fail;clear s0 s1 s2 r0 r1 r2 k0 k1 k2 rz;refine(Yr 2 a b _ true (HG.o)).mono ?_;rintro e w2 ⟨rfl,hw2⟩;have hb2:=Zk (w1.alloc (.cells #[.func (.func 147) #[] #[],.func (.func 148) #[] #[],.func (.func 146) #[] #[]] 147)) (.cells #[.int .i64 2,.int .i64 a,.int .i64 b] 24);rw[←hw2]at hb2;have HW2:=Zd hw2;clear hw2;have XR2:=Zd (XR1.o.later hb2);have XK2:=Zd (XK1.o.later hb2);have hB3:=hB2.trans (hb2.mono hB2.size);clear XS1 XR1 XK1 hb2 hB2 HW2;have r0:=XR2.o.f 0 rfl;have r1:=XR2.o.f 1 rfl;have r2:=XR2.o.f 2 rfl;obtain⟨c0,c1,c2⟩:=XR2.o.y3;obtain⟨k0,k1,k2⟩:=XK2.o.y3;have rz:=XR2.o.size;go_wp2;exact bodyPost_ret (v:=.tuple #[.agg #[.func (.func 147) #[] #[],.func (.func 148) #[] #[],.func (.func 146) #[] #[]],.bool true]) (by simp[results,results94,go_sem,c0,c1,c2]) rfl ⟨rfl,((hB3|> bbs)|> bbs).setCell (p:=⟨w.1.size+1,2,none⟩) (by dsimp only;omega) _⟩
theorem Br(a b:Int)(w:World)(hg:Zg 2 a b=false) :
  Calls prog 94 #[.agg #[.int .i64 2,.int .i64 a,.int .i64 b]] w fun e w'=>e=.returned (.tuple #[.agg #[.nilFunc,.nilFunc,.nilFunc],.bool false])∧Below w.1.size w w':=by
 have HG:=Zd hg;clear hg;obtain⟨w0,hw0⟩:=nmd ((w.alloc (.cells #[.int .i64 2,.int .i64 a,.int .i64 b] 24)).alloc (.cells #[.nilFunc,.nilFunc,.nilFunc] 147));have hB0:Below w.1.size w w0:=by rw[hw0];exact Qh _ _ _
 have XS0:Zi (Bx w0 w.1.size [.int .i64 2,.int .i64 a,.int .i64 b]):=by rw[hw0];exact Bx.alloc (Bx.new [.int .i64 2,.int .i64 a,.int .i64 b] _ rfl) _
 have XR0:Zi (Bx w0 (w.1.size+1) [.nilFunc,.nilFunc,.nilFunc]):=by rw[hw0];exact Bx.new [.nilFunc,.nilFunc,.nilFunc] _ (by simp)
 have H0:=Zd hw0;clear hw0;go_enter func94,ntmps94;go_wp2_with fail;rw[←H0.o];refine(Sj a b w0).mono ?_;rintro e w1 ⟨rfl,hb1⟩;have hB1:=hB0.trans (hb1.mono hB0.size);have XS1:=Zd ((XS0.o.later hb1).alloc (.cells #[.func (.func 147) #[] #[],.func (.func 148) #[] #[],.func (.func 146) #[] #[]] 147));have XR1:=Zd ((XR0.o.later hb1).alloc (.cells #[.func (.func 147) #[] #[],.func (.func 148) #[] #[],.func (.func 146) #[] #[]] 147));have XK1:=Zd (Bx.new (w:=w1) (p:=w1.1.size) [.func (.func 147) #[] #[],.func (.func 148) #[] #[],.func (.func 146) #[] #[]] 147 rfl);have hB2:=Zx hB1 (.cells #[.func (.func 147) #[] #[],.func (.func 148) #[] #[],.func (.func 146) #[] #[]] 147);clear XS0 XR0 hb1 hB1 hB0 H0;obtain⟨s0,s1,s2⟩:=XS1.o.y3;have r0:=XR1.o.f 0 rfl;have r1:=XR1.o.f 1 rfl;have r2:=XR1.o.f 2 rfl;obtain⟨k0,k1,k2⟩:=XK1.o.y3;have rz:=XR1.o.size;go_wp2_with fail;clear s0 s1 s2 r0 r1 r2 k0 k1 k2 rz;refine(Yr 2 a b _ false (HG.o)).mono ?_;rintro e w2 ⟨rfl,hw2⟩;have hb2:=Zk (w1.alloc (.cells #[.func (.func 147) #[] #[],.func (.func 148) #[] #[],.func (.func 146) #[] #[]] 147)) (.cells #[.int .i64 2,.int .i64 a,.int .i64 b] 24);rw[←hw2]at hb2;have HW2:=Zd hw2;clear hw2;have XR2:=Zd (XR1.o.later hb2);have XK2:=Zd (XK1.o.later hb2);have hB3:=hB2.trans (hb2.mono hB2.size);clear XS1 XR1 XK1 hb2 hB2 HW2;have r0:=XR2.o.f 0 rfl;have r1:=XR2.o.f 1 rfl;have r2:=XR2.o.f 2 rfl;obtain⟨c0,c1,c2⟩:=XR2.o.y3;obtain⟨k0,k1,k2⟩:=XK2.o.y3;have rz:=XR2.o.size;go_wp2;exact bodyPost_ret (v:=.tuple #[.agg #[.nilFunc,.nilFunc,.nilFunc],.bool false]) (by simp[results,results94,go_sem,c0,c1,c2]) rfl ⟨rfl,((hB3|> bbs)|> bbs).setCell (p:=⟨w.1.size+1,2,none⟩) (by dsimp only;omega) _⟩
theorem Vv(a b:Int)(w:World)(hg:Zg 3 a b=true) :
  Calls prog 94 #[.agg #[.int .i64 3,.int .i64 a,.int .i64 b]] w fun e w'=>e=.returned (.tuple #[.agg #[.func (.func 149) #[] #[],.func (.func 150) #[] #[],.func (.func 151) #[] #[]],.bool true])∧Below w.1.size w w':=by
 have HG:=Zd hg;clear hg;obtain⟨w0,hw0⟩:=nmd ((w.alloc (.cells #[.int .i64 3,.int .i64 a,.int .i64 b] 24)).alloc (.cells #[.nilFunc,.nilFunc,.nilFunc] 147));have hB0:Below w.1.size w w0:=by rw[hw0];exact Qh _ _ _
 have XS0:Zi (Bx w0 w.1.size [.int .i64 3,.int .i64 a,.int .i64 b]):=by rw[hw0];exact Bx.alloc (Bx.new [.int .i64 3,.int .i64 a,.int .i64 b] _ rfl) _
 have XR0:Zi (Bx w0 (w.1.size+1) [.nilFunc,.nilFunc,.nilFunc]):=by rw[hw0];exact Bx.new [.nilFunc,.nilFunc,.nilFunc] _ (by simp)
 have H0:=Zd hw0;clear hw0;go_enter func94,ntmps94;go_wp2_with fail;rw[←H0.o];refine(Sq a b w0).mono ?_;rintro e w1 ⟨rfl,hb1⟩;have hB1:=hB0.trans (hb1.mono hB0.size);have XS1:=Zd ((XS0.o.later hb1).alloc (.cells #[.func (.func 149) #[] #[],.func (.func 150) #[] #[],.func (.func 151) #[] #[]] 147));have XR1:=Zd ((XR0.o.later hb1).alloc (.cells #[.func (.func 149) #[] #[],.func (.func 150) #[] #[],.func (.func 151) #[] #[]] 147));have XK1:=Zd (Bx.new (w:=w1) (p:=w1.1.size) [.func (.func 149) #[] #[],.func (.func 150) #[] #[],.func (.func 151) #[] #[]] 147 rfl);have hB2:=Zx hB1 (.cells #[.func (.func 149) #[] #[],.func (.func 150) #[] #[],.func (.func 151) #[] #[]] 147);clear XS0 XR0 hb1 hB1 hB0 H0;obtain⟨s0,s1,s2⟩:=XS1.o.y3;have r0:=XR1.o.f 0 rfl;have r1:=XR1.o.f 1 rfl;have r2:=XR1.o.f 2 rfl;obtain⟨k0,k1,k2⟩:=XK1.o.y3;have rz:=XR1.o.size;go_wp2_with fail;clear s0 s1 s2 r0 r1 r2 k0 k1 k2 rz;refine(Rv 3 a b _ true (HG.o)).mono ?_;rintro e w2 ⟨rfl,hw2⟩;have hb2:=Zk (w1.alloc (.cells #[.func (.func 149) #[] #[],.func (.func 150) #[] #[],.func (.func 151) #[] #[]] 147)) (.cells #[.int .i64 3,.int .i64 a,.int .i64 b] 24);rw[←hw2]at hb2;have HW2:=Zd hw2;clear hw2;have XR2:=Zd (XR1.o.later hb2);have XK2:=Zd (XK1.o.later hb2);have hB3:=hB2.trans (hb2.mono hB2.size);clear XS1 XR1 XK1 hb2 hB2 HW2;have r0:=XR2.o.f 0 rfl;have r1:=XR2.o.f 1 rfl;have r2:=XR2.o.f 2 rfl;obtain⟨c0,c1,c2⟩:=XR2.o.y3;obtain⟨k0,k1,k2⟩:=XK2.o.y3;have rz:=XR2.o.size;go_wp2;exact bodyPost_ret (v:=.tuple #[.agg #[.func (.func 149) #[] #[],.func (.func 150) #[] #[],.func (.func 151) #[] #[]],.bool true]) (by simp[results,results94,go_sem,c0,c1,c2]) rfl ⟨rfl,((hB3|> bbs)|> bbs).setCell (p:=⟨w.1.size+1,2,none⟩) (by dsimp only;omega) _⟩
theorem Bp(a b:Int)(w:World)(hg:Zg 3 a b=false) :
  Calls prog 94 #[.agg #[.int .i64 3,.int .i64 a,.int .i64 b]] w fun e w'=>e=.returned (.tuple #[.agg #[.nilFunc,.nilFunc,.nilFunc],.bool false])∧Below w.1.size w w':=by
 have HG:=Zd hg;clear hg;obtain⟨w0,hw0⟩:=nmd ((w.alloc (.cells #[.int .i64 3,.int .i64 a,.int .i64 b] 24)).alloc (.cells #[.nilFunc,.nilFunc,.nilFunc] 147));have hB0:Below w.1.size w w0:=by rw[hw0];exact Qh _ _ _
 have XS0:Zi (Bx w0 w.1.size [.int .i64 3,.int .i64 a,.int .i64 b]):=by rw[hw0];exact Bx.alloc (Bx.new [.int .i64 3,.int .i64 a,.int .i64 b] _ rfl) _
 have XR0:Zi (Bx w0 (w.1.size+1) [.nilFunc,.nilFunc,.nilFunc]):=by rw[hw0];exact Bx.new [.nilFunc,.nilFunc,.nilFunc] _ (by simp)
 have H0:=Zd hw0;clear hw0;go_enter func94,ntmps94;go_wp2_with fail;rw[←H0.o];refine(Sq a b w0).mono ?_;rintro e w1 ⟨rfl,hb1⟩;have hB1:=hB0.trans (hb1.mono hB0.size);have XS1:=Zd ((XS0.o.later hb1).alloc (.cells #[.func (.func 149) #[] #[],.func (.func 150) #[] #[],.func (.func 151) #[] #[]] 147));have XR1:=Zd ((XR0.o.later hb1).alloc (.cells #[.func (.func 149) #[] #[],.func (.func 150) #[] #[],.func (.func 151) #[] #[]] 147));have XK1:=Zd (Bx.new (w:=w1) (p:=w1.1.size) [.func (.func 149) #[] #[],.func (.func 150) #[] #[],.func (.func 151) #[] #[]] 147 rfl);have hB2:=Zx hB1 (.cells #[.func (.func 149) #[] #[],.func (.func 150) #[] #[],.func (.func 151) #[] #[]] 147);clear XS0 XR0 hb1 hB1 hB0 H0;obtain⟨s0,s1,s2⟩:=XS1.o.y3;have r0:=XR1.o.f 0 rfl;have r1:=XR1.o.f 1 rfl;have r2:=XR1.o.f 2 rfl;obtain⟨k0,k1,k2⟩:=XK1.o.y3;have rz:=XR1.o.size;go_wp2_with fail;clear s0 s1 s2 r0 r1 r2 k0 k1 k2 rz;refine(Rv 3 a b _ false (HG.o)).mono ?_;rintro e w2 ⟨rfl,hw2⟩;have hb2:=Zk (w1.alloc (.cells #[.func (.func 149) #[] #[],.func (.func 150) #[] #[],.func (.func 151) #[] #[]] 147)) (.cells #[.int .i64 3,.int .i64 a,.int .i64 b] 24);rw[←hw2]at hb2;have HW2:=Zd hw2;clear hw2;have XR2:=Zd (XR1.o.later hb2);have XK2:=Zd (XK1.o.later hb2);have hB3:=hB2.trans (hb2.mono hB2.size);clear XS1 XR1 XK1 hb2 hB2 HW2;have r0:=XR2.o.f 0 rfl;have r1:=XR2.o.f 1 rfl;have r2:=XR2.o.f 2 rfl;obtain⟨c0,c1,c2⟩:=XR2.o.y3;obtain⟨k0,k1,k2⟩:=XK2.o.y3;have rz:=XR2.o.size;go_wp2;exact bodyPost_ret (v:=.tuple #[.agg #[.nilFunc,.nilFunc,.nilFunc],.bool false]) (by simp[results,results94,go_sem,c0,c1,c2]) rfl ⟨rfl,((hB3|> bbs)|> bbs).setCell (p:=⟨w.1.size+1,2,none⟩) (by dsimp only;omega) _⟩
theorem Vx(a b:Int)(w:World)(hg:Zg 4 a b=true) :
  Calls prog 94 #[.agg #[.int .i64 4,.int .i64 a,.int .i64 b]] w fun e w'=>e=.returned (.tuple #[.agg #[.func (.func 147) #[] #[],.func (.func 152) #[] #[],.func (.func 146) #[] #[]],.bool true])∧Below w.1.size w w':=by
 have HG:=Zd hg;clear hg;obtain⟨w0,hw0⟩:=nmd ((w.alloc (.cells #[.int .i64 4,.int .i64 a,.int .i64 b] 24)).alloc (.cells #[.nilFunc,.nilFunc,.nilFunc] 147));have hB0:Below w.1.size w w0:=by rw[hw0];exact Qh _ _ _
 have XS0:Zi (Bx w0 w.1.size [.int .i64 4,.int .i64 a,.int .i64 b]):=by rw[hw0];exact Bx.alloc (Bx.new [.int .i64 4,.int .i64 a,.int .i64 b] _ rfl) _
 have XR0:Zi (Bx w0 (w.1.size+1) [.nilFunc,.nilFunc,.nilFunc]):=by rw[hw0];exact Bx.new [.nilFunc,.nilFunc,.nilFunc] _ (by simp)
 have H0:=Zd hw0;clear hw0;go_enter func94,ntmps94;go_wp2_with fail;rw[←H0.o];refine(Sz a b w0).mono ?_;rintro e w1 ⟨rfl,hb1⟩;have hB1:=hB0.trans (hb1.mono hB0.size);have XS1:=Zd ((XS0.o.later hb1).alloc (.cells #[.func (.func 147) #[] #[],.func (.func 152) #[] #[],.func (.func 146) #[] #[]] 147));have XR1:=Zd ((XR0.o.later hb1).alloc (.cells #[.func (.func 147) #[] #[],.func (.func 152) #[] #[],.func (.func 146) #[] #[]] 147));have XK1:=Zd (Bx.new (w:=w1) (p:=w1.1.size) [.func (.func 147) #[] #[],.func (.func 152) #[] #[],.func (.func 146) #[] #[]] 147 rfl);have hB2:=Zx hB1 (.cells #[.func (.func 147) #[] #[],.func (.func 152) #[] #[],.func (.func 146) #[] #[]] 147);clear XS0 XR0 hb1 hB1 hB0 H0;obtain⟨s0,s1,s2⟩:=XS1.o.y3;have r0:=XR1.o.f 0 rfl;have r1:=XR1.o.f 1 rfl;have r2:=XR1.o.f 2 rfl;obtain⟨k0,k1,k2⟩:=XK1.o.y3;have rz:=XR1.o.size;go_wp2_with fail;clear s0 s1 s2 r0 r1 r2 k0 k1 k2 rz;refine(Yr 4 a b _ true (HG.o)).mono ?_;rintro e w2 ⟨rfl,hw2⟩;have hb2:=Zk (w1.alloc (.cells #[.func (.func 147) #[] #[],.func (.func 152) #[] #[],.func (.func 146) #[] #[]] 147)) (.cells #[.int .i64 4,.int .i64 a,.int .i64 b] 24);rw[←hw2]at hb2;have HW2:=Zd hw2;clear hw2;have XR2:=Zd (XR1.o.later hb2);have XK2:=Zd (XK1.o.later hb2);have hB3:=hB2.trans (hb2.mono hB2.size);clear XS1 XR1 XK1 hb2 hB2 HW2;have r0:=XR2.o.f 0 rfl;have r1:=XR2.o.f 1 rfl;have r2:=XR2.o.f 2 rfl;obtain⟨c0,c1,c2⟩:=XR2.o.y3;obtain⟨k0,k1,k2⟩:=XK2.o.y3;have rz:=XR2.o.size;go_wp2;exact bodyPost_ret (v:=.tuple #[.agg #[.func (.func 147) #[] #[],.func (.func 152) #[] #[],.func (.func 146) #[] #[]],.bool true]) (by simp[results,results94,go_sem,c0,c1,c2]) rfl ⟨rfl,((hB3|> bbs)|> bbs).setCell (p:=⟨w.1.size+1,2,none⟩) (by dsimp only;omega) _⟩
theorem Bo(a b:Int)(w:World)(hg:Zg 4 a b=false) :
  Calls prog 94 #[.agg #[.int .i64 4,.int .i64 a,.int .i64 b]] w fun e w'=>e=.returned (.tuple #[.agg #[.nilFunc,.nilFunc,.nilFunc],.bool false])∧Below w.1.size w w':=by
 have HG:=Zd hg;clear hg;obtain⟨w0,hw0⟩:=nmd ((w.alloc (.cells #[.int .i64 4,.int .i64 a,.int .i64 b] 24)).alloc (.cells #[.nilFunc,.nilFunc,.nilFunc] 147));have hB0:Below w.1.size w w0:=by rw[hw0];exact Qh _ _ _
 have XS0:Zi (Bx w0 w.1.size [.int .i64 4,.int .i64 a,.int .i64 b]):=by rw[hw0];exact Bx.alloc (Bx.new [.int .i64 4,.int .i64 a,.int .i64 b] _ rfl) _
 have XR0:Zi (Bx w0 (w.1.size+1) [.nilFunc,.nilFunc,.nilFunc]):=by rw[hw0];exact Bx.new [.nilFunc,.nilFunc,.nilFunc] _ (by simp)
 have H0:=Zd hw0;clear hw0;go_enter func94,ntmps94;go_wp2_with fail;rw[←H0.o];refine(Sz a b w0).mono ?_;rintro e w1 ⟨rfl,hb1⟩;have hB1:=hB0.trans (hb1.mono hB0.size);have XS1:=Zd ((XS0.o.later hb1).alloc (.cells #[.func (.func 147) #[] #[],.func (.func 152) #[] #[],.func (.func 146) #[] #[]] 147));have XR1:=Zd ((XR0.o.later hb1).alloc (.cells #[.func (.func 147) #[] #[],.func (.func 152) #[] #[],.func (.func 146) #[] #[]] 147));have XK1:=Zd (Bx.new (w:=w1) (p:=w1.1.size) [.func (.func 147) #[] #[],.func (.func 152) #[] #[],.func (.func 146) #[] #[]] 147 rfl);have hB2:=Zx hB1 (.cells #[.func (.func 147) #[] #[],.func (.func 152) #[] #[],.func (.func 146) #[] #[]] 147);clear XS0 XR0 hb1 hB1 hB0 H0;obtain⟨s0,s1,s2⟩:=XS1.o.y3;have r0:=XR1.o.f 0 rfl;have r1:=XR1.o.f 1 rfl;have r2:=XR1.o.f 2 rfl;obtain⟨k0,k1,k2⟩:=XK1.o.y3;have rz:=XR1.o.size;go_wp2_with fail;clear s0 s1 s2 r0 r1 r2 k0 k1 k2 rz;refine(Yr 4 a b _ false (HG.o)).mono ?_;rintro e w2 ⟨rfl,hw2⟩;have hb2:=Zk (w1.alloc (.cells #[.func (.func 147) #[] #[],.func (.func 152) #[] #[],.func (.func 146) #[] #[]] 147)) (.cells #[.int .i64 4,.int .i64 a,.int .i64 b] 24);rw[←hw2]at hb2;have HW2:=Zd hw2;clear hw2;have XR2:=Zd (XR1.o.later hb2);have XK2:=Zd (XK1.o.later hb2);have hB3:=hB2.trans (hb2.mono hB2.size);clear XS1 XR1 XK1 hb2 hB2 HW2;have r0:=XR2.o.f 0 rfl;have r1:=XR2.o.f 1 rfl;have r2:=XR2.o.f 2 rfl;obtain⟨c0,c1,c2⟩:=XR2.o.y3;obtain⟨k0,k1,k2⟩:=XK2.o.y3;have rz:=XR2.o.size;go_wp2;exact bodyPost_ret (v:=.tuple #[.agg #[.nilFunc,.nilFunc,.nilFunc],.bool false]) (by simp[results,results94,go_sem,c0,c1,c2]) rfl ⟨rfl,((hB3|> bbs)|> bbs).setCell (p:=⟨w.1.size+1,2,none⟩) (by dsimp only;omega) _⟩
theorem goodKind0(k a b:Int)(w:World)(h1:k≠1)(h2:k≠2)(h3:k≠3)(h4:k≠4) :
  Calls prog 94 #[.agg #[.int .i64 k,.int .i64 a,.int .i64 b]] w fun e w'=>e=.returned (.tuple #[.agg #[.nilFunc,.nilFunc,.nilFunc],.bool false])∧Below w.1.size w w':=by
 obtain⟨w0,hw0⟩:=nmd ((w.alloc (.cells #[.int .i64 k,.int .i64 a,.int .i64 b] 24)).alloc (.cells #[.nilFunc,.nilFunc,.nilFunc] 147));have hB0:Below w.1.size w w0:=by rw[hw0];exact Qh _ _ _
 have XR0:Zi (Bx w0 (w.1.size+1) [.nilFunc,.nilFunc,.nilFunc]):=by rw[hw0];exact Bx.new [.nilFunc,.nilFunc,.nilFunc] _ (by simp)
 have H0:=Zd hw0;clear hw0;go_enter func94,ntmps94;go_wp2_with fail;rw[←H0.o];refine(kindOf0_is k a b w0 h1 h2 h3 h4).mono ?_;rintro e w1 ⟨rfl,hb1⟩;have hB1:=hB0.trans (hb1.mono hB0.size);have XR1:=Zd ((XR0.o.later hb1).alloc (.cells #[.nilFunc,.nilFunc,.nilFunc] 147));have hB2:=Zx hB1 (.cells #[.nilFunc,.nilFunc,.nilFunc] 147);clear XR0 hb1 hB1 hB0 H0;have r0:=XR1.o.f 0 rfl;have r1:=XR1.o.f 1 rfl;have r2:=XR1.o.f 2 rfl;obtain⟨c0,c1,c2⟩:=XR1.o.y3;have rz:=XR1.o.size;go_wp2;exact bodyPost_ret (v:=.tuple #[.agg #[.nilFunc,.nilFunc,.nilFunc],.bool false]) (by simp[results,results94,go_sem,c0,c1,c2]) rfl ⟨rfl,((hB2|> bbs)|> bbs).setCell (p:=⟨w.1.size+1,2,none⟩) (by dsimp only;omega) _⟩
theorem Pq(k a b:Int)(w:World)(hg:Zg k a b=false) :
  Calls prog 94 #[.agg #[.int .i64 k,.int .i64 a,.int .i64 b]] w fun e w'=>e=.returned (.tuple #[.agg #[.nilFunc,.nilFunc,.nilFunc],.bool false])∧Below w.1.size w w':=by
 rcases kinds k with rfl|rfl|rfl|rfl|⟨h1,h2,h3,h4⟩
 ·exact Bt a b w hg
 ·exact Br a b w hg
 ·exact Bp a b w hg
 ·exact Bo a b w hg
 ·exact goodKind0 k a b w h1 h2 h3 h4
theorem implGood1(a b:Int)(w:World)(hg:Zg 1 a b=true) :
  Calls prog 65 #[.agg #[.int .i64 1,.int .i64 a,.int .i64 b]] w fun e w'=>e=.returned (.bool true)∧Below w.1.size w w':=by
 go_enter func65,ntmps65;go_wp2_with fail;refine(Vy a b _ hg).mono ?_;rintro e w1 ⟨rfl,hb1⟩;have hB1:=(Zk w (.cells #[.int .i64 1,.int .i64 a,.int .i64 b] 24)).trans (hb1.mono (by simp));clear hb1;go_wp2;go_ret;exact⟨rfl,Zx hB1 _⟩
theorem implGood2(a b:Int)(w:World)(hg:Zg 2 a b=true) :
  Calls prog 65 #[.agg #[.int .i64 2,.int .i64 a,.int .i64 b]] w fun e w'=>e=.returned (.bool true)∧Below w.1.size w w':=by
 go_enter func65,ntmps65;go_wp2_with fail;refine(Vw a b _ hg).mono ?_;rintro e w1 ⟨rfl,hb1⟩;have hB1:=(Zk w (.cells #[.int .i64 2,.int .i64 a,.int .i64 b] 24)).trans (hb1.mono (by simp));clear hb1;go_wp2;go_ret;exact⟨rfl,Zx hB1 _⟩
theorem implGood3(a b:Int)(w:World)(hg:Zg 3 a b=true) :
  Calls prog 65 #[.agg #[.int .i64 3,.int .i64 a,.int .i64 b]] w fun e w'=>e=.returned (.bool true)∧Below w.1.size w w':=by
 go_enter func65,ntmps65;go_wp2_with fail;refine(Vv a b _ hg).mono ?_;rintro e w1 ⟨rfl,hb1⟩;have hB1:=(Zk w (.cells #[.int .i64 3,.int .i64 a,.int .i64 b] 24)).trans (hb1.mono (by simp));clear hb1;go_wp2;go_ret;exact⟨rfl,Zx hB1 _⟩
theorem implGood4(a b:Int)(w:World)(hg:Zg 4 a b=true) :
  Calls prog 65 #[.agg #[.int .i64 4,.int .i64 a,.int .i64 b]] w fun e w'=>e=.returned (.bool true)∧Below w.1.size w w':=by
 go_enter func65,ntmps65;go_wp2_with fail;refine(Vx a b _ hg).mono ?_;rintro e w1 ⟨rfl,hb1⟩;have hB1:=(Zk w (.cells #[.int .i64 4,.int .i64 a,.int .i64 b] 24)).trans (hb1.mono (by simp));clear hb1;go_wp2;go_ret;exact⟨rfl,Zx hB1 _⟩
theorem implGood0(k a b:Int)(w:World)(hg:Zg k a b=false) :
  Calls prog 65 #[.agg #[.int .i64 k,.int .i64 a,.int .i64 b]] w fun e w'=>e=.returned (.bool false)∧Below w.1.size w w':=by
 go_enter func65,ntmps65;go_wp2_with fail;refine(Pq k a b _ hg).mono ?_;rintro e w1 ⟨rfl,hb1⟩;have hB1:=(Zk w (.cells #[.int .i64 k,.int .i64 a,.int .i64 b] 24)).trans (hb1.mono (by simp));clear hb1;go_wp2;go_ret;exact⟨rfl,Zx hB1 _⟩
theorem Mi(k a b:Int)(w:World)(r:Bool)(hg:Zg k a b=r) :
  Calls prog 65 #[.agg #[.int .i64 k,.int .i64 a,.int .i64 b]] w fun e w'=>e=.returned (.bool r)∧Below w.1.size w w':=by
 cases r with
 |false=>exact implGood0 k a b w hg
 |true =>
  rcases kinds k with rfl|rfl|rfl|rfl|⟨h1,h2,h3,h4⟩
  ·exact implGood1 a b w hg
  ·exact implGood2 a b w hg
  ·exact implGood3 a b w hg
  ·exact implGood4 a b w hg
  ·rw[goodSt0 h1 h2 h3 h4]at hg;cases hg
def Uv(k a b:Int):Int:=if Zg k a b=true then(if k=3 then a else 1)else 0
theorem Gb(k a b:Int)(w:World) :
  Calls prog 146 #[.agg #[.int .i64 k,.int .i64 a,.int .i64 b]] w fun e w'=>e=.returned (.int .i64 1)∧Below w.1.size w w':=by
 go_enter func146,ntmps146;go_wp2;go_ret;exact⟨rfl,Zk _ _⟩
theorem expandedTo_is(k a b:Int)(w:World) :
  Calls prog 151 #[.agg #[.int .i64 k,.int .i64 a,.int .i64 b]] w fun e w'=>e=.returned (.int .i64 a)∧Below w.1.size w w':=by
 go_enter func151,ntmps151;go_wp2;go_ret;exact⟨rfl,Zk _ _⟩
theorem implFact0(k a b:Int)(w:World)(hg:Zg k a b=false) :
  Calls prog 195 #[.agg #[.int .i64 k,.int .i64 a,.int .i64 b]] w fun e w'=>e=.returned (.int .i64 0)∧Below w.1.size w w':=by
 go_enter func195,ntmps195;go_wp2_with fail;refine(Pq k a b _ hg).mono ?_;rintro e w1 ⟨rfl,hb1⟩;have hB1:=(Zk w (.cells #[.int .i64 k,.int .i64 a,.int .i64 b] 24)).trans (hb1.mono (by simp));clear hb1;go_wp2;go_ret;exact⟨rfl,Zx hB1 _⟩
theorem implFact1(a b:Int)(w:World)(hg:Zg 1 a b=true) :
  Calls prog 195 #[.agg #[.int .i64 1,.int .i64 a,.int .i64 b]] w fun e w'=>e=.returned (.int .i64 1)∧Below w.1.size w w':=by
 go_enter func195,ntmps195;go_wp2_with fail;refine(Vy a b _ hg).mono ?_;rintro e w1 ⟨rfl,hb1⟩;have hB1:=Zx ((Zk w (.cells #[.int .i64 1,.int .i64 a,.int .i64 b] 24)).trans (hb1.mono (by simp))) (.cells #[.func (.func 144) #[] #[],.func (.func 145) #[] #[],.func (.func 146) #[] #[]] 147);have XS:=Zd (((Bx.new (w:=w) (p:=w.1.size) [.int .i64 1,.int .i64 a,.int .i64 b] 24 rfl).later hb1).alloc (.cells #[.func (.func 144) #[] #[],.func (.func 145) #[] #[],.func (.func 146) #[] #[]] 147));have XK:=Zd (Bx.new (w:=w1) (p:=w1.1.size) [.func (.func 144) #[] #[],.func (.func 145) #[] #[],.func (.func 146) #[] #[]] 147 rfl);clear hb1;obtain⟨s0,s1,s2⟩:=XS.o.y3;obtain⟨k0,k1,k2⟩:=XK.o.y3;go_wp2_with fail;refine(Gb 1 a b _).mono ?_;rintro e w2 ⟨rfl,hb2⟩;have hB2:=hB1.trans (hb2.mono hB1.size);clear hb2 hB1 XS XK s0 s1 s2 k0 k1 k2;go_wp2;go_ret;exact⟨rfl,hB2⟩
theorem implFact2(a b:Int)(w:World)(hg:Zg 2 a b=true) :
  Calls prog 195 #[.agg #[.int .i64 2,.int .i64 a,.int .i64 b]] w fun e w'=>e=.returned (.int .i64 1)∧Below w.1.size w w':=by
 go_enter func195,ntmps195;go_wp2_with fail;refine(Vw a b _ hg).mono ?_;rintro e w1 ⟨rfl,hb1⟩;have hB1:=Zx ((Zk w (.cells #[.int .i64 2,.int .i64 a,.int .i64 b] 24)).trans (hb1.mono (by simp))) (.cells #[.func (.func 147) #[] #[],.func (.func 148) #[] #[],.func (.func 146) #[] #[]] 147);have XS:=Zd (((Bx.new (w:=w) (p:=w.1.size) [.int .i64 2,.int .i64 a,.int .i64 b] 24 rfl).later hb1).alloc (.cells #[.func (.func 147) #[] #[],.func (.func 148) #[] #[],.func (.func 146) #[] #[]] 147));have XK:=Zd (Bx.new (w:=w1) (p:=w1.1.size) [.func (.func 147) #[] #[],.func (.func 148) #[] #[],.func (.func 146) #[] #[]] 147 rfl);clear hb1;obtain⟨s0,s1,s2⟩:=XS.o.y3;obtain⟨k0,k1,k2⟩:=XK.o.y3;go_wp2_with fail;refine(Gb 2 a b _).mono ?_;rintro e w2 ⟨rfl,hb2⟩;have hB2:=hB1.trans (hb2.mono hB1.size);clear hb2 hB1 XS XK s0 s1 s2 k0 k1 k2;go_wp2;go_ret;exact⟨rfl,hB2⟩
theorem implFact3(a b:Int)(w:World)(hg:Zg 3 a b=true) :
  Calls prog 195 #[.agg #[.int .i64 3,.int .i64 a,.int .i64 b]] w fun e w'=>e=.returned (.int .i64 a)∧Below w.1.size w w':=by
 go_enter func195,ntmps195;go_wp2_with fail;refine(Vv a b _ hg).mono ?_;rintro e w1 ⟨rfl,hb1⟩;have hB1:=Zx ((Zk w (.cells #[.int .i64 3,.int .i64 a,.int .i64 b] 24)).trans (hb1.mono (by simp))) (.cells #[.func (.func 149) #[] #[],.func (.func 150) #[] #[],.func (.func 151) #[] #[]] 147);have XS:=Zd (((Bx.new (w:=w) (p:=w.1.size) [.int .i64 3,.int .i64 a,.int .i64 b] 24 rfl).later hb1).alloc (.cells #[.func (.func 149) #[] #[],.func (.func 150) #[] #[],.func (.func 151) #[] #[]] 147));have XK:=Zd (Bx.new (w:=w1) (p:=w1.1.size) [.func (.func 149) #[] #[],.func (.func 150) #[] #[],.func (.func 151) #[] #[]] 147 rfl);clear hb1;obtain⟨s0,s1,s2⟩:=XS.o.y3;obtain⟨k0,k1,k2⟩:=XK.o.y3;go_wp2_with fail;refine(expandedTo_is 3 a b _).mono ?_;rintro e w2 ⟨rfl,hb2⟩;have hB2:=hB1.trans (hb2.mono hB1.size);clear hb2 hB1 XS XK s0 s1 s2 k0 k1 k2;go_wp2;go_ret;exact⟨rfl,hB2⟩
theorem implFact4(a b:Int)(w:World)(hg:Zg 4 a b=true) :
  Calls prog 195 #[.agg #[.int .i64 4,.int .i64 a,.int .i64 b]] w fun e w'=>e=.returned (.int .i64 1)∧Below w.1.size w w':=by
 go_enter func195,ntmps195;go_wp2_with fail;refine(Vx a b _ hg).mono ?_;rintro e w1 ⟨rfl,hb1⟩;have hB1:=Zx ((Zk w (.cells #[.int .i64 4,.int .i64 a,.int .i64 b] 24)).trans (hb1.mono (by simp))) (.cells #[.func (.func 147) #[] #[],.func (.func 152) #[] #[],.func (.func 146) #[] #[]] 147);have XS:=Zd (((Bx.new (w:=w) (p:=w.1.size) [.int .i64 4,.int .i64 a,.int .i64 b] 24 rfl).later hb1).alloc (.cells #[.func (.func 147) #[] #[],.func (.func 152) #[] #[],.func (.func 146) #[] #[]] 147));have XK:=Zd (Bx.new (w:=w1) (p:=w1.1.size) [.func (.func 147) #[] #[],.func (.func 152) #[] #[],.func (.func 146) #[] #[]] 147 rfl);clear hb1;obtain⟨s0,s1,s2⟩:=XS.o.y3;obtain⟨k0,k1,k2⟩:=XK.o.y3;go_wp2_with fail;refine(Gb 4 a b _).mono ?_;rintro e w2 ⟨rfl,hb2⟩;have hB2:=hB1.trans (hb2.mono hB1.size);clear hb2 hB1 XS XK s0 s1 s2 k0 k1 k2;go_wp2;go_ret;exact⟨rfl,hB2⟩
theorem Ml(k a b:Int)(w:World)(z:Int)(hz:Uv k a b=z) :
  Calls prog 195 #[.agg #[.int .i64 k,.int .i64 a,.int .i64 b]] w fun e w'=>e=.returned (.int .i64 z)∧Below w.1.size w w':=by
 subst hz
 unfold Uv
 rcases hg:Zg k a b with _|_
 ·exact implFact0 k a b w hg
 ·rw[if_pos rfl]
  rcases kinds k with rfl|rfl|rfl|rfl|⟨h1,h2,h3,h4⟩
  ·exact implFact1 a b w hg
  ·exact implFact2 a b w hg
  ·exact implFact3 a b w hg
  ·exact implFact4 a b w hg
  ·rw[goodSt0 h1 h2 h3 h4]at hg;cases hg
theorem Yd(k a b:Int)(w:World)(z:Int)(hz:Uv k a b=z) :
  Calls prog 212 #[.agg #[.int .i64 k,.int .i64 a,.int .i64 b]] w fun e w'=>e=.returned (.int .i64 z)∧Below w.1.size w w':=by
 subst hz
 unfold Uv
 rcases hg:Zg k a b with _|_
 ·have HG:=Zd hg;clear hg;go_enter func212,ntmps212;go_wp2_with fail;refine(Jp k a b _ _ HG.o).mono ?_;rintro e w1 ⟨rfl,hw1⟩;rw[hw1];clear hw1 w1
  go_wp2;go_ret;exact⟨rfl,Qh _ _ _⟩
 ·have HG:=Zd hg;clear hg;rw[if_pos rfl]
  by_cases h3:k=3
  ·subst h3;go_enter func212,ntmps212;go_wp2_with fail;refine(Jp 3 a b _ _ HG.o).mono ?_;rintro e w1 ⟨rfl,hw1⟩;rw[hw1];clear hw1 w1
   go_wp2;go_ret;exact⟨rfl,Qh _ _ _⟩
  ·have k3:(k==3)=false:=by simpa using h3
   rw[if_neg h3];clear h3;go_enter func212,ntmps212;go_wp2_with fail;refine(Jp k a b _ _ HG.o).mono ?_;rintro e w1 ⟨rfl,hw1⟩;rw[hw1];clear hw1 w1
   go_wp2;go_ret;exact⟨rfl,Qh _ _ _⟩
theorem mod_neg(a n:Int)(hn:0<n)(h:a.tmod n<0):a % n=a.tmod n+n:=by
 have h2 : -n<a.tmod n:=by have:=Int.lt_tmod_of_pos a hn;omega
 have e:a=n*a.tdiv n+a.tmod n:=(Int.mul_tdiv_add_tmod a n).symm;have:a % n=(a.tmod n+n) % n:=by
  conv=>lhs;rw[e]
  rw[Int.add_emod_right,Int.mul_add_emod_self_left]
 rw[this,Int.emod_eq_of_lt (by omega) (by omega)]
theorem mod_pos(a n:Int)(hn:0<n)(h:¬a.tmod n<0):a % n=a.tmod n:=by
 have h1:a.tmod n<n:=Int.tmod_lt_of_pos a hn;have e:a=n*a.tdiv n+a.tmod n:=(Int.mul_tdiv_add_tmod a n).symm;have:a % n=(a.tmod n) % n:=by
  conv=>lhs;rw[e]
  rw[Int.mul_add_emod_self_left]
 rw[this,Int.emod_eq_of_lt (by omega) (by omega)]
theorem Hn(a n:Int)(w:World)(z:Int)(hz:a % n=z)(hn:0<n)(hn2:n≤1048576) :
  Calls prog 253 #[.int .i64 a,.int .i64 n] w fun e w'=>e=.returned (.int .i64 z)∧w'=w:=by
 subst hz;have h1:a.tmod n<n:=Int.tmod_lt_of_pos a hn;have h2 : -n<a.tmod n:=by have:=Int.lt_tmod_of_pos a hn;omega
 have hne:n≠0:=by omega
 go_enter func253,ntmps253
 by_cases h:a.tmod n<0
 ·rw[mod_neg a n hn h];go_wp2;go_ret;exact⟨rfl,rfl⟩
 ·rw[mod_pos a n hn h];go_wp2;go_ret;exact⟨rfl,rfl⟩
theorem Pp(a n:Int)(w:World)(z:Int)(hz:a % n=z)(hn:0<n)(hn2:n≤1048576) :
  Calls prog 188 #[.int .i64 a,.int .i64 n] w fun e w'=>e=.returned (.int .i64 z)∧w'=w:=by
 subst hz;have h1:a.tmod n<n:=Int.tmod_lt_of_pos a hn;have h2 : -n<a.tmod n:=by have:=Int.lt_tmod_of_pos a hn;omega
 have hne:n≠0:=by omega
 go_enter func188,ntmps188
 by_cases h:a.tmod n<0
 ·rw[mod_neg a n hn h];go_wp2;go_ret;exact⟨rfl,rfl⟩
 ·rw[mod_pos a n hn h];go_wp2;go_ret;exact⟨rfl,rfl⟩
def cutI(n:Int):Int:=if n>1000000 then 1000000 else if n < -1000000 then -1000000 else n
theorem cutI_val(n:Int):Js (cutI n)=true:=by
 unfold cutI Js
 split
 ·decide
 ·split
  ·decide
  ·simp;omega
theorem l7Cut_is(n:Int)(w:World)(z:Int)(hz:cutI n=z) :
  Calls prog 252 #[.int .i64 n] w fun e w'=>e=.returned (.int .i64 z)∧w'=w:=by
 subst hz
 unfold cutI
 by_cases h:n>1000000
 ·rw[if_pos h];have h':decide (1000000<n)=true:=by simpa using h
  go_enter func252,ntmps252;go_wp2;go_ret;exact⟨rfl,rfl⟩
 ·rw[if_neg h]
  by_cases h2:n < -1000000
  ·rw[if_pos h2];go_enter func252,ntmps252;go_wp2;go_ret;exact⟨rfl,rfl⟩
  ·rw[if_neg h2];go_enter func252,ntmps252;go_wp2;go_ret;exact⟨rfl,rfl⟩
theorem cutTo_is(n:Int)(w:World)(z:Int)(hz:cutI n=z) :
  Calls prog 187 #[.int .i64 n] w fun e w'=>e=.returned (.int .i64 z)∧w'=w:=by
 subst hz
 unfold cutI
 by_cases h:n>1000000
 ·rw[if_pos h];go_enter func187,ntmps187;go_wp2
  all_goals go_ret
  all_goals exact⟨Xb (by omega),rfl⟩
 ·rw[if_neg h]
  by_cases h2:n < -1000000
  ·rw[if_pos h2];go_enter func187,ntmps187;go_wp2
   all_goals go_ret
   all_goals exact⟨Xb (by omega),rfl⟩
  ·rw[if_neg h2];go_enter func187,ntmps187;go_wp2
   all_goals go_ret
   all_goals exact⟨Xb (by omega),rfl⟩
def Dp(n:Nat)(b v:Int):List Int:=(List.range n).map fun i:Nat=>cutI (v+(i:Int)*b)
def Jm(k a b v:Int):List Int×Bool :=
 if k=1 then([cutI (v*a+b)],false)
 else if k=2 then(if v % a=b then[v]else[],false)
 else if k=3 then(Dp a.toNat b v,false)
 else if v % a=b then([],true)else([v],false)
theorem Hs(n:Nat)(b v:Int):(Dp n b v).length=n:=by simp[Dp]
theorem expI_succ(n:Nat)(b v:Int):Dp (n+1) b v=Dp n b v++[cutI (v+(n:Int)*b)]:=by simp[Dp,List.range_succ]
theorem good3{a b:Int}(h:Zg 3 a b=true):1≤a∧a≤3∧-1000≤b∧b≤1000:=by
 rw[goodSt3]at h;simpa[and_assoc]using h
theorem good2{a b:Int}(h:Zg 2 a b=true):1≤a∧a≤1000∧0≤b∧b≤a-1:=by
 rw[goodSt2]at h;simpa[and_assoc]using h
theorem good4{a b:Int}(h:Zg 4 a b=true):1≤a∧a≤1000∧0≤b∧b≤a-1:=by
 rw[goodSt4]at h;simpa[and_assoc]using h
theorem good1{a b:Int}(h:Zg 1 a b=true) : -100≤a∧a≤100∧-1000000≤b∧b≤1000000:=by
 rw[goodSt1]at h;simpa[Js,and_assoc]using h
theorem val_of{v:Int}(h:Js v=true) : -1000000≤v∧v≤1000000:=by simpa[Js]using h
theorem Xd{k a b:Int}(h:Zg k a b=true):k=1∨k=2∨k=3∨k=4:=by
 rcases kinds k with h1|h1|h1|h1|⟨h1,h2,h3,h4⟩
 ·exact .inl h1
 ·exact .inr (.inl h1)
 ·exact .inr (.inr (.inl h1))
 ·exact .inr (.inr (.inr h1))
 ·rw[goodSt0 h1 h2 h3 h4]at h;cases h
theorem Dh(a b v:Int):Jm 2 a b v=(if v % a=b then[v]else[],false):=rfl
theorem appSt3(a b v:Int):Jm 3 a b v=(Dp a.toNat b v,false):=rfl
theorem Dg(a b v:Int):Jm 4 a b v=if v % a=b then([],true)else([v],false):=rfl
theorem appSt_len{k a b v:Int}(h:Zg k a b=true):(Jm k a b v).1.length≤3:=by
 rcases Xd h with rfl|rfl|rfl|rfl
 ·simp[Jm]
 ·rw[Dh];dsimp only;split <;> simp
 ·have:=good3 h;rw[appSt3];dsimp only;rw[Hs];omega
 ·rw[Dg];split <;> simp
theorem Df{k a b v:Int}(h:Zg k a b=true)(hv:Js v=true):∀x∈(Jm k a b v).1,Js x=true:=by
 intro x hx
 rcases Xd h with rfl|rfl|rfl|rfl
 ·simp[Jm]at hx;subst hx;exact cutI_val _
 ·rw[Dh]at hx;dsimp only at hx
  split at hx <;> simp at hx;subst hx;exact hv
 ·rw[appSt3]at hx;dsimp only at hx
  simp[Dp]at hx;obtain⟨i,_,rfl⟩:=hx;exact cutI_val _
 ·rw[Dg]at hx
  split at hx <;> simp at hx;subst hx;exact hv
theorem mul_le100{v a:Int}(h1 : -1000000≤v∧v≤1000000)(h2 : -100≤a∧a≤100) : -100000000≤v*a∧v*a≤100000000:=by
 have hn:(v*a).natAbs≤1000000*100:=by rw[Int.natAbs_mul];exact Nat.mul_le_mul (by omega) (by omega)
 omega
end Go.Proofs.YtdacedbfnlkghaaGreatDoor