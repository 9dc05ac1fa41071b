/- Stages: what the program finds good, and how many come out. Stages: GoodStage and FactorOf on both sides, and their laws' walks. Stages: what a stage makes of a value, on both sides. No conditions but those written. -/
import Derived.Test.YtdacedbfnlkghaaGreatDoorUAoSh
import Derived.Deep.Cut
namespace Go.Proofs.YtdacedbfnlkghaaGreatDoor
set_option maxHeartbeats 4000000
open Go.RowKit Go.Proofs.Tryz
theorem Vb(a b:Int)(w:World)(hg:Zg 1 a b=true) :
  Calls prog 94 #[.agg #[.int .i64 1,.int .i64 a,.int .i64 b]] w fun e w'=>e=.returned (.tuple #[.agg #[.func (.func 144) #[] #[],.func (.func 145) #[] #[],.func (.func 146) #[] #[]],.bool true])∧Below w.1.size w w':=by
 have HG:=Zd hg;clear hg;obtain⟨w0,hw0⟩:=nmd ((w.alloc (.cells #[.int .i64 1,.int .i64 a,.int .i64 b] 24)).alloc (.cells #[.nilFunc,.nilFunc,.nilFunc] 147));have hB0:Below w.1.size w w0:=by rw[hw0];exact Qf _ _ _
 have XS0:Zi (Bx w0 w.1.size [.int .i64 1,.int .i64 a,.int .i64 b]):=by rw[hw0];exact Bx.alloc (Bx.new [.int .i64 1,.int .i64 a,.int .i64 b] _ rfl) _
 have XR0:Zi (Bx w0 (w.1.size+1) [.nilFunc,.nilFunc,.nilFunc]):=by rw[hw0];exact Bx.new [.nilFunc,.nilFunc,.nilFunc] _ (by simp)
 have H0:=Zd hw0;clear hw0;go_enter func94,ntmps94;go_wp2_with fail;rw[←H0.o];refine(Cd a b w0).mono ?_;rintro e w1 ⟨rfl,hb1⟩;have hB1:=hB0.trans (hb1.mono hB0.size);have XS1:=Zd ((XS0.o.later hb1).alloc (.cells #[.func (.func 144) #[] #[],.func (.func 145) #[] #[],.func (.func 146) #[] #[]] 147));have XR1:=Zd ((XR0.o.later hb1).alloc (.cells #[.func (.func 144) #[] #[],.func (.func 145) #[] #[],.func (.func 146) #[] #[]] 147));have XK1:=Zd (Bx.new (w:=w1) (p:=w1.1.size) [.func (.func 144) #[] #[],.func (.func 145) #[] #[],.func (.func 146) #[] #[]] 147 rfl);have hB2:=Zx hB1 (.cells #[.func (.func 144) #[] #[],.func (.func 145) #[] #[],.func (.func 146) #[] #[]] 147);clear XS0 XR0 hb1 hB1 hB0 H0;obtain⟨s0,s1,s2⟩:=XS1.o.y3;have r0:=XR1.o.f 0 rfl;have r1:=XR1.o.f 1 rfl;have r2:=XR1.o.f 2 rfl;obtain⟨k0,k1,k2⟩:=XK1.o.y3;have rz:=XR1.o.size;go_wp2_with fail;clear s0 s1 s2 r0 r1 r2 k0 k1 k2 rz;refine(Cf 1 a b _ true (HG.o)).mono ?_;rintro e w2 ⟨rfl,hw2⟩;have hb2:=Zk (w1.alloc (.cells #[.func (.func 144) #[] #[],.func (.func 145) #[] #[],.func (.func 146) #[] #[]] 147)) (.cells #[.int .i64 1,.int .i64 a,.int .i64 b] 24);rw[←hw2]at hb2;have HW2:=Zd hw2;clear hw2;have XR2:=Zd (XR1.o.later hb2);have XK2:=Zd (XK1.o.later hb2);have hB3:=hB2.trans (hb2.mono hB2.size);clear XS1 XR1 XK1 hb2 hB2 HW2;have r0:=XR2.o.f 0 rfl;have r1:=XR2.o.f 1 rfl;have r2:=XR2.o.f 2 rfl;obtain⟨c0,c1,c2⟩:=XR2.o.y3;obtain⟨k0,k1,k2⟩:=XK2.o.y3;have rz:=XR2.o.size;go_wp2;exact bodyPost_ret (v:=.tuple #[.agg #[.func (.func 144) #[] #[],.func (.func 145) #[] #[],.func (.func 146) #[] #[]],.bool true]) (by simp[results,results94,go_sem,c0,c1,c2]) rfl ⟨rfl,((hB3|> bbs)|> bbs).setCell (p:=⟨w.1.size+1,2,none⟩) (by dsimp only;omega) _⟩
theorem Bf(a b:Int)(w:World)(hg:Zg 1 a b=false) :
  Calls prog 94 #[.agg #[.int .i64 1,.int .i64 a,.int .i64 b]] w fun e w'=>e=.returned (.tuple #[.agg #[.nilFunc,.nilFunc,.nilFunc],.bool false])∧Below w.1.size w w':=by
 have HG:=Zd hg;clear hg;obtain⟨w0,hw0⟩:=nmd ((w.alloc (.cells #[.int .i64 1,.int .i64 a,.int .i64 b] 24)).alloc (.cells #[.nilFunc,.nilFunc,.nilFunc] 147));have hB0:Below w.1.size w w0:=by rw[hw0];exact Qf _ _ _
 have XS0:Zi (Bx w0 w.1.size [.int .i64 1,.int .i64 a,.int .i64 b]):=by rw[hw0];exact Bx.alloc (Bx.new [.int .i64 1,.int .i64 a,.int .i64 b] _ rfl) _
 have XR0:Zi (Bx w0 (w.1.size+1) [.nilFunc,.nilFunc,.nilFunc]):=by rw[hw0];exact Bx.new [.nilFunc,.nilFunc,.nilFunc] _ (by simp)
 have H0:=Zd hw0;clear hw0;go_enter func94,ntmps94;go_wp2_with fail;rw[←H0.o];refine(Cd a b w0).mono ?_;rintro e w1 ⟨rfl,hb1⟩;have hB1:=hB0.trans (hb1.mono hB0.size);have XS1:=Zd ((XS0.o.later hb1).alloc (.cells #[.func (.func 144) #[] #[],.func (.func 145) #[] #[],.func (.func 146) #[] #[]] 147));have XR1:=Zd ((XR0.o.later hb1).alloc (.cells #[.func (.func 144) #[] #[],.func (.func 145) #[] #[],.func (.func 146) #[] #[]] 147));have XK1:=Zd (Bx.new (w:=w1) (p:=w1.1.size) [.func (.func 144) #[] #[],.func (.func 145) #[] #[],.func (.func 146) #[] #[]] 147 rfl);have hB2:=Zx hB1 (.cells #[.func (.func 144) #[] #[],.func (.func 145) #[] #[],.func (.func 146) #[] #[]] 147);clear XS0 XR0 hb1 hB1 hB0 H0;obtain⟨s0,s1,s2⟩:=XS1.o.y3;have r0:=XR1.o.f 0 rfl;have r1:=XR1.o.f 1 rfl;have r2:=XR1.o.f 2 rfl;obtain⟨k0,k1,k2⟩:=XK1.o.y3;have rz:=XR1.o.size;go_wp2_with fail;clear s0 s1 s2 r0 r1 r2 k0 k1 k2 rz;refine(Cf 1 a b _ false (HG.o)).mono ?_;rintro e w2 ⟨rfl,hw2⟩;have hb2:=Zk (w1.alloc (.cells #[.func (.func 144) #[] #[],.func (.func 145) #[] #[],.func (.func 146) #[] #[]] 147)) (.cells #[.int .i64 1,.int .i64 a,.int .i64 b] 24);rw[←hw2]at hb2;have HW2:=Zd hw2;clear hw2;have XR2:=Zd (XR1.o.later hb2);have XK2:=Zd (XK1.o.later hb2);have hB3:=hB2.trans (hb2.mono hB2.size);clear XS1 XR1 XK1 hb2 hB2 HW2;have r0:=XR2.o.f 0 rfl;have r1:=XR2.o.f 1 rfl;have r2:=XR2.o.f 2 rfl;obtain⟨c0,c1,c2⟩:=XR2.o.y3;obtain⟨k0,k1,k2⟩:=XK2.o.y3;have rz:=XR2.o.size;go_wp2;exact bodyPost_ret (v:=.tuple #[.agg #[.nilFunc,.nilFunc,.nilFunc],.bool false]) (by simp[results,results94,go_sem,c0,c1,c2]) rfl ⟨rfl,((hB3|> bbs)|> bbs).setCell (p:=⟨w.1.size+1,2,none⟩) (by dsimp only;omega) _⟩
theorem Va(a b:Int)(w:World)(hg:Zg 2 a b=true) :
  Calls prog 94 #[.agg #[.int .i64 2,.int .i64 a,.int .i64 b]] w fun e w'=>e=.returned (.tuple #[.agg #[.func (.func 147) #[] #[],.func (.func 148) #[] #[],.func (.func 146) #[] #[]],.bool true])∧Below w.1.size w w':=by
 have HG:=Zd hg;clear hg;obtain⟨w0,hw0⟩:=nmd ((w.alloc (.cells #[.int .i64 2,.int .i64 a,.int .i64 b] 24)).alloc (.cells #[.nilFunc,.nilFunc,.nilFunc] 147));have hB0:Below w.1.size w w0:=by rw[hw0];exact Qf _ _ _
 have XS0:Zi (Bx w0 w.1.size [.int .i64 2,.int .i64 a,.int .i64 b]):=by rw[hw0];exact Bx.alloc (Bx.new [.int .i64 2,.int .i64 a,.int .i64 b] _ rfl) _
 have XR0:Zi (Bx w0 (w.1.size+1) [.nilFunc,.nilFunc,.nilFunc]):=by rw[hw0];exact Bx.new [.nilFunc,.nilFunc,.nilFunc] _ (by simp)
 have H0:=Zd hw0;clear hw0;go_enter func94,ntmps94;go_wp2_with fail;rw[←H0.o];refine(Cc a b w0).mono ?_;rintro e w1 ⟨rfl,hb1⟩;have hB1:=hB0.trans (hb1.mono hB0.size);have XS1:=Zd ((XS0.o.later hb1).alloc (.cells #[.func (.func 147) #[] #[],.func (.func 148) #[] #[],.func (.func 146) #[] #[]] 147));have XR1:=Zd ((XR0.o.later hb1).alloc (.cells #[.func (.func 147) #[] #[],.func (.func 148) #[] #[],.func (.func 146) #[] #[]] 147));have XK1:=Zd (Bx.new (w:=w1) (p:=w1.1.size) [.func (.func 147) #[] #[],.func (.func 148) #[] #[],.func (.func 146) #[] #[]] 147 rfl);have hB2:=Zx hB1 (.cells #[.func (.func 147) #[] #[],.func (.func 148) #[] #[],.func (.func 146) #[] #[]] 147);clear XS0 XR0 hb1 hB1 hB0 H0;obtain⟨s0,s1,s2⟩:=XS1.o.y3;have r0:=XR1.o.f 0 rfl;have r1:=XR1.o.f 1 rfl;have r2:=XR1.o.f 2 rfl;obtain⟨k0,k1,k2⟩:=XK1.o.y3;have rz:=XR1.o.size;go_wp2_with fail;clear s0 s1 s2 r0 r1 r2 k0 k1 k2 rz;refine(Uj 2 a b _ true (HG.o)).mono ?_;rintro e w2 ⟨rfl,hw2⟩;have hb2:=Zk (w1.alloc (.cells #[.func (.func 147) #[] #[],.func (.func 148) #[] #[],.func (.func 146) #[] #[]] 147)) (.cells #[.int .i64 2,.int .i64 a,.int .i64 b] 24);rw[←hw2]at hb2;have HW2:=Zd hw2;clear hw2;have XR2:=Zd (XR1.o.later hb2);have XK2:=Zd (XK1.o.later hb2);have hB3:=hB2.trans (hb2.mono hB2.size);clear XS1 XR1 XK1 hb2 hB2 HW2;have r0:=XR2.o.f 0 rfl;have r1:=XR2.o.f 1 rfl;have r2:=XR2.o.f 2 rfl;obtain⟨c0,c1,c2⟩:=XR2.o.y3;obtain⟨k0,k1,k2⟩:=XK2.o.y3;have rz:=XR2.o.size;go_wp2;exact bodyPost_ret (v:=.tuple #[.agg #[.func (.func 147) #[] #[],.func (.func 148) #[] #[],.func (.func 146) #[] #[]],.bool true]) (by simp[results,results94,go_sem,c0,c1,c2]) rfl ⟨rfl,((hB3|> bbs)|> bbs).setCell (p:=⟨w.1.size+1,2,none⟩) (by dsimp only;omega) _⟩
theorem Be(a b:Int)(w:World)(hg:Zg 2 a b=false) :
  Calls prog 94 #[.agg #[.int .i64 2,.int .i64 a,.int .i64 b]] w fun e w'=>e=.returned (.tuple #[.agg #[.nilFunc,.nilFunc,.nilFunc],.bool false])∧Below w.1.size w w':=by
 have HG:=Zd hg;clear hg;obtain⟨w0,hw0⟩:=nmd ((w.alloc (.cells #[.int .i64 2,.int .i64 a,.int .i64 b] 24)).alloc (.cells #[.nilFunc,.nilFunc,.nilFunc] 147));have hB0:Below w.1.size w w0:=by rw[hw0];exact Qf _ _ _
 have XS0:Zi (Bx w0 w.1.size [.int .i64 2,.int .i64 a,.int .i64 b]):=by rw[hw0];exact Bx.alloc (Bx.new [.int .i64 2,.int .i64 a,.int .i64 b] _ rfl) _
 have XR0:Zi (Bx w0 (w.1.size+1) [.nilFunc,.nilFunc,.nilFunc]):=by rw[hw0];exact Bx.new [.nilFunc,.nilFunc,.nilFunc] _ (by simp)
 have H0:=Zd hw0;clear hw0;go_enter func94,ntmps94;go_wp2_with fail;rw[←H0.o];refine(Cc a b w0).mono ?_;rintro e w1 ⟨rfl,hb1⟩;have hB1:=hB0.trans (hb1.mono hB0.size);have XS1:=Zd ((XS0.o.later hb1).alloc (.cells #[.func (.func 147) #[] #[],.func (.func 148) #[] #[],.func (.func 146) #[] #[]] 147));have XR1:=Zd ((XR0.o.later hb1).alloc (.cells #[.func (.func 147) #[] #[],.func (.func 148) #[] #[],.func (.func 146) #[] #[]] 147));have XK1:=Zd (Bx.new (w:=w1) (p:=w1.1.size) [.func (.func 147) #[] #[],.func (.func 148) #[] #[],.func (.func 146) #[] #[]] 147 rfl);have hB2:=Zx hB1 (.cells #[.func (.func 147) #[] #[],.func (.func 148) #[] #[],.func (.func 146) #[] #[]] 147);clear XS0 XR0 hb1 hB1 hB0 H0;obtain⟨s0,s1,s2⟩:=XS1.o.y3;have r0:=XR1.o.f 0 rfl;have r1:=XR1.o.f 1 rfl;have r2:=XR1.o.f 2 rfl;obtain⟨k0,k1,k2⟩:=XK1.o.y3;have rz:=XR1.o.size;go_wp2_with fail;clear s0 s1 s2 r0 r1 r2 k0 k1 k2 rz;refine(Uj 2 a b _ false (HG.o)).mono ?_;rintro e w2 ⟨rfl,hw2⟩;have hb2:=Zk (w1.alloc (.cells #[.func (.func 147) #[] #[],.func (.func 148) #[] #[],.func (.func 146) #[] #[]] 147)) (.cells #[.int .i64 2,.int .i64 a,.int .i64 b] 24);rw[←hw2]at hb2;have HW2:=Zd hw2;clear hw2;have XR2:=Zd (XR1.o.later hb2);have XK2:=Zd (XK1.o.later hb2);have hB3:=hB2.trans (hb2.mono hB2.size);clear XS1 XR1 XK1 hb2 hB2 HW2;have r0:=XR2.o.f 0 rfl;have r1:=XR2.o.f 1 rfl;have r2:=XR2.o.f 2 rfl;obtain⟨c0,c1,c2⟩:=XR2.o.y3;obtain⟨k0,k1,k2⟩:=XK2.o.y3;have rz:=XR2.o.size;go_wp2;exact bodyPost_ret (v:=.tuple #[.agg #[.nilFunc,.nilFunc,.nilFunc],.bool false]) (by simp[results,results94,go_sem,c0,c1,c2]) rfl ⟨rfl,((hB3|> bbs)|> bbs).setCell (p:=⟨w.1.size+1,2,none⟩) (by dsimp only;omega) _⟩
theorem Vy(a b:Int)(w:World)(hg:Zg 3 a b=true) :
  Calls prog 94 #[.agg #[.int .i64 3,.int .i64 a,.int .i64 b]] w fun e w'=>e=.returned (.tuple #[.agg #[.func (.func 149) #[] #[],.func (.func 150) #[] #[],.func (.func 151) #[] #[]],.bool true])∧Below w.1.size w w':=by
 have HG:=Zd hg;clear hg;obtain⟨w0,hw0⟩:=nmd ((w.alloc (.cells #[.int .i64 3,.int .i64 a,.int .i64 b] 24)).alloc (.cells #[.nilFunc,.nilFunc,.nilFunc] 147));have hB0:Below w.1.size w w0:=by rw[hw0];exact Qf _ _ _
 have XS0:Zi (Bx w0 w.1.size [.int .i64 3,.int .i64 a,.int .i64 b]):=by rw[hw0];exact Bx.alloc (Bx.new [.int .i64 3,.int .i64 a,.int .i64 b] _ rfl) _
 have XR0:Zi (Bx w0 (w.1.size+1) [.nilFunc,.nilFunc,.nilFunc]):=by rw[hw0];exact Bx.new [.nilFunc,.nilFunc,.nilFunc] _ (by simp)
 have H0:=Zd hw0;clear hw0;go_enter func94,ntmps94;go_wp2_with fail;rw[←H0.o];refine(Cb a b w0).mono ?_;rintro e w1 ⟨rfl,hb1⟩;have hB1:=hB0.trans (hb1.mono hB0.size);have XS1:=Zd ((XS0.o.later hb1).alloc (.cells #[.func (.func 149) #[] #[],.func (.func 150) #[] #[],.func (.func 151) #[] #[]] 147));have XR1:=Zd ((XR0.o.later hb1).alloc (.cells #[.func (.func 149) #[] #[],.func (.func 150) #[] #[],.func (.func 151) #[] #[]] 147));have XK1:=Zd (Bx.new (w:=w1) (p:=w1.1.size) [.func (.func 149) #[] #[],.func (.func 150) #[] #[],.func (.func 151) #[] #[]] 147 rfl);have hB2:=Zx hB1 (.cells #[.func (.func 149) #[] #[],.func (.func 150) #[] #[],.func (.func 151) #[] #[]] 147);clear XS0 XR0 hb1 hB1 hB0 H0;obtain⟨s0,s1,s2⟩:=XS1.o.y3;have r0:=XR1.o.f 0 rfl;have r1:=XR1.o.f 1 rfl;have r2:=XR1.o.f 2 rfl;obtain⟨k0,k1,k2⟩:=XK1.o.y3;have rz:=XR1.o.size;go_wp2_with fail;clear s0 s1 s2 r0 r1 r2 k0 k1 k2 rz;refine(Rg 3 a b _ true (HG.o)).mono ?_;rintro e w2 ⟨rfl,hw2⟩;have hb2:=Zk (w1.alloc (.cells #[.func (.func 149) #[] #[],.func (.func 150) #[] #[],.func (.func 151) #[] #[]] 147)) (.cells #[.int .i64 3,.int .i64 a,.int .i64 b] 24);rw[←hw2]at hb2;have HW2:=Zd hw2;clear hw2;have XR2:=Zd (XR1.o.later hb2);have XK2:=Zd (XK1.o.later hb2);have hB3:=hB2.trans (hb2.mono hB2.size);clear XS1 XR1 XK1 hb2 hB2 HW2;have r0:=XR2.o.f 0 rfl;have r1:=XR2.o.f 1 rfl;have r2:=XR2.o.f 2 rfl;obtain⟨c0,c1,c2⟩:=XR2.o.y3;obtain⟨k0,k1,k2⟩:=XK2.o.y3;have rz:=XR2.o.size;go_wp2;exact bodyPost_ret (v:=.tuple #[.agg #[.func (.func 149) #[] #[],.func (.func 150) #[] #[],.func (.func 151) #[] #[]],.bool true]) (by simp[results,results94,go_sem,c0,c1,c2]) rfl ⟨rfl,((hB3|> bbs)|> bbs).setCell (p:=⟨w.1.size+1,2,none⟩) (by dsimp only;omega) _⟩
theorem Bd(a b:Int)(w:World)(hg:Zg 3 a b=false) :
  Calls prog 94 #[.agg #[.int .i64 3,.int .i64 a,.int .i64 b]] w fun e w'=>e=.returned (.tuple #[.agg #[.nilFunc,.nilFunc,.nilFunc],.bool false])∧Below w.1.size w w':=by
 have HG:=Zd hg;clear hg;obtain⟨w0,hw0⟩:=nmd ((w.alloc (.cells #[.int .i64 3,.int .i64 a,.int .i64 b] 24)).alloc (.cells #[.nilFunc,.nilFunc,.nilFunc] 147));have hB0:Below w.1.size w w0:=by rw[hw0];exact Qf _ _ _
 have XS0:Zi (Bx w0 w.1.size [.int .i64 3,.int .i64 a,.int .i64 b]):=by rw[hw0];exact Bx.alloc (Bx.new [.int .i64 3,.int .i64 a,.int .i64 b] _ rfl) _
 have XR0:Zi (Bx w0 (w.1.size+1) [.nilFunc,.nilFunc,.nilFunc]):=by rw[hw0];exact Bx.new [.nilFunc,.nilFunc,.nilFunc] _ (by simp)
 have H0:=Zd hw0;clear hw0;go_enter func94,ntmps94;go_wp2_with fail;rw[←H0.o];refine(Cb a b w0).mono ?_;rintro e w1 ⟨rfl,hb1⟩;have hB1:=hB0.trans (hb1.mono hB0.size);have XS1:=Zd ((XS0.o.later hb1).alloc (.cells #[.func (.func 149) #[] #[],.func (.func 150) #[] #[],.func (.func 151) #[] #[]] 147));have XR1:=Zd ((XR0.o.later hb1).alloc (.cells #[.func (.func 149) #[] #[],.func (.func 150) #[] #[],.func (.func 151) #[] #[]] 147));have XK1:=Zd (Bx.new (w:=w1) (p:=w1.1.size) [.func (.func 149) #[] #[],.func (.func 150) #[] #[],.func (.func 151) #[] #[]] 147 rfl);have hB2:=Zx hB1 (.cells #[.func (.func 149) #[] #[],.func (.func 150) #[] #[],.func (.func 151) #[] #[]] 147);clear XS0 XR0 hb1 hB1 hB0 H0;obtain⟨s0,s1,s2⟩:=XS1.o.y3;have r0:=XR1.o.f 0 rfl;have r1:=XR1.o.f 1 rfl;have r2:=XR1.o.f 2 rfl;obtain⟨k0,k1,k2⟩:=XK1.o.y3;have rz:=XR1.o.size;go_wp2_with fail;clear s0 s1 s2 r0 r1 r2 k0 k1 k2 rz;refine(Rg 3 a b _ false (HG.o)).mono ?_;rintro e w2 ⟨rfl,hw2⟩;have hb2:=Zk (w1.alloc (.cells #[.func (.func 149) #[] #[],.func (.func 150) #[] #[],.func (.func 151) #[] #[]] 147)) (.cells #[.int .i64 3,.int .i64 a,.int .i64 b] 24);rw[←hw2]at hb2;have HW2:=Zd hw2;clear hw2;have XR2:=Zd (XR1.o.later hb2);have XK2:=Zd (XK1.o.later hb2);have hB3:=hB2.trans (hb2.mono hB2.size);clear XS1 XR1 XK1 hb2 hB2 HW2;have r0:=XR2.o.f 0 rfl;have r1:=XR2.o.f 1 rfl;have r2:=XR2.o.f 2 rfl;obtain⟨c0,c1,c2⟩:=XR2.o.y3;obtain⟨k0,k1,k2⟩:=XK2.o.y3;have rz:=XR2.o.size;go_wp2;exact bodyPost_ret (v:=.tuple #[.agg #[.nilFunc,.nilFunc,.nilFunc],.bool false]) (by simp[results,results94,go_sem,c0,c1,c2]) rfl ⟨rfl,((hB3|> bbs)|> bbs).setCell (p:=⟨w.1.size+1,2,none⟩) (by dsimp only;omega) _⟩
theorem Vw(a b:Int)(w:World)(hg:Zg 4 a b=true) :
  Calls prog 94 #[.agg #[.int .i64 4,.int .i64 a,.int .i64 b]] w fun e w'=>e=.returned (.tuple #[.agg #[.func (.func 147) #[] #[],.func (.func 152) #[] #[],.func (.func 146) #[] #[]],.bool true])∧Below w.1.size w w':=by
 have HG:=Zd hg;clear hg;obtain⟨w0,hw0⟩:=nmd ((w.alloc (.cells #[.int .i64 4,.int .i64 a,.int .i64 b] 24)).alloc (.cells #[.nilFunc,.nilFunc,.nilFunc] 147));have hB0:Below w.1.size w w0:=by rw[hw0];exact Qf _ _ _
 have XS0:Zi (Bx w0 w.1.size [.int .i64 4,.int .i64 a,.int .i64 b]):=by rw[hw0];exact Bx.alloc (Bx.new [.int .i64 4,.int .i64 a,.int .i64 b] _ rfl) _
 have XR0:Zi (Bx w0 (w.1.size+1) [.nilFunc,.nilFunc,.nilFunc]):=by rw[hw0];exact Bx.new [.nilFunc,.nilFunc,.nilFunc] _ (by simp)
 have H0:=Zd hw0;clear hw0;go_enter func94,ntmps94;go_wp2_with fail;rw[←H0.o];refine(Ca a b w0).mono ?_;rintro e w1 ⟨rfl,hb1⟩;have hB1:=hB0.trans (hb1.mono hB0.size);have XS1:=Zd ((XS0.o.later hb1).alloc (.cells #[.func (.func 147) #[] #[],.func (.func 152) #[] #[],.func (.func 146) #[] #[]] 147));have XR1:=Zd ((XR0.o.later hb1).alloc (.cells #[.func (.func 147) #[] #[],.func (.func 152) #[] #[],.func (.func 146) #[] #[]] 147));have XK1:=Zd (Bx.new (w:=w1) (p:=w1.1.size) [.func (.func 147) #[] #[],.func (.func 152) #[] #[],.func (.func 146) #[] #[]] 147 rfl);have hB2:=Zx hB1 (.cells #[.func (.func 147) #[] #[],.func (.func 152) #[] #[],.func (.func 146) #[] #[]] 147);clear XS0 XR0 hb1 hB1 hB0 H0;obtain⟨s0,s1,s2⟩:=XS1.o.y3;have r0:=XR1.o.f 0 rfl;have r1:=XR1.o.f 1 rfl;have r2:=XR1.o.f 2 rfl;obtain⟨k0,k1,k2⟩:=XK1.o.y3;have rz:=XR1.o.size;go_wp2_with fail;clear s0 s1 s2 r0 r1 r2 k0 k1 k2 rz;refine(Uj 4 a b _ true (HG.o)).mono ?_;rintro e w2 ⟨rfl,hw2⟩;have hb2:=Zk (w1.alloc (.cells #[.func (.func 147) #[] #[],.func (.func 152) #[] #[],.func (.func 146) #[] #[]] 147)) (.cells #[.int .i64 4,.int .i64 a,.int .i64 b] 24);rw[←hw2]at hb2;have HW2:=Zd hw2;clear hw2;have XR2:=Zd (XR1.o.later hb2);have XK2:=Zd (XK1.o.later hb2);have hB3:=hB2.trans (hb2.mono hB2.size);clear XS1 XR1 XK1 hb2 hB2 HW2;have r0:=XR2.o.f 0 rfl;have r1:=XR2.o.f 1 rfl;have r2:=XR2.o.f 2 rfl;obtain⟨c0,c1,c2⟩:=XR2.o.y3;obtain⟨k0,k1,k2⟩:=XK2.o.y3;have rz:=XR2.o.size;go_wp2;exact bodyPost_ret (v:=.tuple #[.agg #[.func (.func 147) #[] #[],.func (.func 152) #[] #[],.func (.func 146) #[] #[]],.bool true]) (by simp[results,results94,go_sem,c0,c1,c2]) rfl ⟨rfl,((hB3|> bbs)|> bbs).setCell (p:=⟨w.1.size+1,2,none⟩) (by dsimp only;omega) _⟩
theorem Bc(a b:Int)(w:World)(hg:Zg 4 a b=false) :
  Calls prog 94 #[.agg #[.int .i64 4,.int .i64 a,.int .i64 b]] w fun e w'=>e=.returned (.tuple #[.agg #[.nilFunc,.nilFunc,.nilFunc],.bool false])∧Below w.1.size w w':=by
 have HG:=Zd hg;clear hg;obtain⟨w0,hw0⟩:=nmd ((w.alloc (.cells #[.int .i64 4,.int .i64 a,.int .i64 b] 24)).alloc (.cells #[.nilFunc,.nilFunc,.nilFunc] 147));have hB0:Below w.1.size w w0:=by rw[hw0];exact Qf _ _ _
 have XS0:Zi (Bx w0 w.1.size [.int .i64 4,.int .i64 a,.int .i64 b]):=by rw[hw0];exact Bx.alloc (Bx.new [.int .i64 4,.int .i64 a,.int .i64 b] _ rfl) _
 have XR0:Zi (Bx w0 (w.1.size+1) [.nilFunc,.nilFunc,.nilFunc]):=by rw[hw0];exact Bx.new [.nilFunc,.nilFunc,.nilFunc] _ (by simp)
 have H0:=Zd hw0;clear hw0;go_enter func94,ntmps94;go_wp2_with fail;rw[←H0.o];refine(Ca a b w0).mono ?_;rintro e w1 ⟨rfl,hb1⟩;have hB1:=hB0.trans (hb1.mono hB0.size);have XS1:=Zd ((XS0.o.later hb1).alloc (.cells #[.func (.func 147) #[] #[],.func (.func 152) #[] #[],.func (.func 146) #[] #[]] 147));have XR1:=Zd ((XR0.o.later hb1).alloc (.cells #[.func (.func 147) #[] #[],.func (.func 152) #[] #[],.func (.func 146) #[] #[]] 147));have XK1:=Zd (Bx.new (w:=w1) (p:=w1.1.size) [.func (.func 147) #[] #[],.func (.func 152) #[] #[],.func (.func 146) #[] #[]] 147 rfl);have hB2:=Zx hB1 (.cells #[.func (.func 147) #[] #[],.func (.func 152) #[] #[],.func (.func 146) #[] #[]] 147);clear XS0 XR0 hb1 hB1 hB0 H0;obtain⟨s0,s1,s2⟩:=XS1.o.y3;have r0:=XR1.o.f 0 rfl;have r1:=XR1.o.f 1 rfl;have r2:=XR1.o.f 2 rfl;obtain⟨k0,k1,k2⟩:=XK1.o.y3;have rz:=XR1.o.size;go_wp2_with fail;clear s0 s1 s2 r0 r1 r2 k0 k1 k2 rz;refine(Uj 4 a b _ false (HG.o)).mono ?_;rintro e w2 ⟨rfl,hw2⟩;have hb2:=Zk (w1.alloc (.cells #[.func (.func 147) #[] #[],.func (.func 152) #[] #[],.func (.func 146) #[] #[]] 147)) (.cells #[.int .i64 4,.int .i64 a,.int .i64 b] 24);rw[←hw2]at hb2;have HW2:=Zd hw2;clear hw2;have XR2:=Zd (XR1.o.later hb2);have XK2:=Zd (XK1.o.later hb2);have hB3:=hB2.trans (hb2.mono hB2.size);clear XS1 XR1 XK1 hb2 hB2 HW2;have r0:=XR2.o.f 0 rfl;have r1:=XR2.o.f 1 rfl;have r2:=XR2.o.f 2 rfl;obtain⟨c0,c1,c2⟩:=XR2.o.y3;obtain⟨k0,k1,k2⟩:=XK2.o.y3;have rz:=XR2.o.size;go_wp2;exact bodyPost_ret (v:=.tuple #[.agg #[.nilFunc,.nilFunc,.nilFunc],.bool false]) (by simp[results,results94,go_sem,c0,c1,c2]) rfl ⟨rfl,((hB3|> bbs)|> bbs).setCell (p:=⟨w.1.size+1,2,none⟩) (by dsimp only;omega) _⟩
theorem goodKind0(k a b:Int)(w:World)(h1:k≠1)(h2:k≠2)(h3:k≠3)(h4:k≠4) :
  Calls prog 94 #[.agg #[.int .i64 k,.int .i64 a,.int .i64 b]] w fun e w'=>e=.returned (.tuple #[.agg #[.nilFunc,.nilFunc,.nilFunc],.bool false])∧Below w.1.size w w':=by
 obtain⟨w0,hw0⟩:=nmd ((w.alloc (.cells #[.int .i64 k,.int .i64 a,.int .i64 b] 24)).alloc (.cells #[.nilFunc,.nilFunc,.nilFunc] 147));have hB0:Below w.1.size w w0:=by rw[hw0];exact Qf _ _ _
 have XR0:Zi (Bx w0 (w.1.size+1) [.nilFunc,.nilFunc,.nilFunc]):=by rw[hw0];exact Bx.new [.nilFunc,.nilFunc,.nilFunc] _ (by simp)
 have H0:=Zd hw0;clear hw0;go_enter func94,ntmps94;go_wp2_with fail;rw[←H0.o];refine(kindOf0_is k a b w0 h1 h2 h3 h4).mono ?_;rintro e w1 ⟨rfl,hb1⟩;have hB1:=hB0.trans (hb1.mono hB0.size);have XR1:=Zd ((XR0.o.later hb1).alloc (.cells #[.nilFunc,.nilFunc,.nilFunc] 147));have hB2:=Zx hB1 (.cells #[.nilFunc,.nilFunc,.nilFunc] 147);clear XR0 hb1 hB1 hB0 H0;have r0:=XR1.o.f 0 rfl;have r1:=XR1.o.f 1 rfl;have r2:=XR1.o.f 2 rfl;obtain⟨c0,c1,c2⟩:=XR1.o.y3;have rz:=XR1.o.size;go_wp2;exact bodyPost_ret (v:=.tuple #[.agg #[.nilFunc,.nilFunc,.nilFunc],.bool false]) (by simp[results,results94,go_sem,c0,c1,c2]) rfl ⟨rfl,((hB2|> bbs)|> bbs).setCell (p:=⟨w.1.size+1,2,none⟩) (by dsimp only;omega) _⟩
theorem Pg(k a b:Int)(w:World)(hg:Zg k a b=false) :
  Calls prog 94 #[.agg #[.int .i64 k,.int .i64 a,.int .i64 b]] w fun e w'=>e=.returned (.tuple #[.agg #[.nilFunc,.nilFunc,.nilFunc],.bool false])∧Below w.1.size w w':=by
 rcases kinds k with rfl|rfl|rfl|rfl|⟨h1,h2,h3,h4⟩
 ·exact Bf a b w hg
 ·exact Be a b w hg
 ·exact Bd a b w hg
 ·exact Bc a b w hg
 ·exact goodKind0 k a b w h1 h2 h3 h4
theorem implGood1(a b:Int)(w:World)(hg:Zg 1 a b=true) :
  Calls prog 65 #[.agg #[.int .i64 1,.int .i64 a,.int .i64 b]] w fun e w'=>e=.returned (.bool true)∧Below w.1.size w w':=by
 go_enter func65,ntmps65;go_wp2_with fail;refine(Vb a b _ hg).mono ?_;rintro e w1 ⟨rfl,hb1⟩;have hB1:=(Zk w (.cells #[.int .i64 1,.int .i64 a,.int .i64 b] 24)).trans (hb1.mono (by simp));clear hb1;go_wp2;go_ret;exact⟨rfl,Zx hB1 _⟩
theorem implGood2(a b:Int)(w:World)(hg:Zg 2 a b=true) :
  Calls prog 65 #[.agg #[.int .i64 2,.int .i64 a,.int .i64 b]] w fun e w'=>e=.returned (.bool true)∧Below w.1.size w w':=by
 go_enter func65,ntmps65;go_wp2_with fail;refine(Va a b _ hg).mono ?_;rintro e w1 ⟨rfl,hb1⟩;have hB1:=(Zk w (.cells #[.int .i64 2,.int .i64 a,.int .i64 b] 24)).trans (hb1.mono (by simp));clear hb1;go_wp2;go_ret;exact⟨rfl,Zx hB1 _⟩
theorem implGood3(a b:Int)(w:World)(hg:Zg 3 a b=true) :
  Calls prog 65 #[.agg #[.int .i64 3,.int .i64 a,.int .i64 b]] w fun e w'=>e=.returned (.bool true)∧Below w.1.size w w':=by
 go_enter func65,ntmps65;go_wp2_with fail;refine(Vy a b _ hg).mono ?_;rintro e w1 ⟨rfl,hb1⟩;have hB1:=(Zk w (.cells #[.int .i64 3,.int .i64 a,.int .i64 b] 24)).trans (hb1.mono (by simp));clear hb1;go_wp2;go_ret;exact⟨rfl,Zx hB1 _⟩
theorem implGood4(a b:Int)(w:World)(hg:Zg 4 a b=true) :
  Calls prog 65 #[.agg #[.int .i64 4,.int .i64 a,.int .i64 b]] w fun e w'=>e=.returned (.bool true)∧Below w.1.size w w':=by
 go_enter func65,ntmps65;go_wp2_with fail;refine(Vw a b _ hg).mono ?_;rintro e w1 ⟨rfl,hb1⟩;have hB1:=(Zk w (.cells #[.int .i64 4,.int .i64 a,.int .i64 b] 24)).trans (hb1.mono (by simp));clear hb1;go_wp2;go_ret;exact⟨rfl,Zx hB1 _⟩
theorem implGood0(k a b:Int)(w:World)(hg:Zg k a b=false) :
  Calls prog 65 #[.agg #[.int .i64 k,.int .i64 a,.int .i64 b]] w fun e w'=>e=.returned (.bool false)∧Below w.1.size w w':=by
 go_enter func65,ntmps65;go_wp2_with fail;refine(Pg k a b _ hg).mono ?_;rintro e w1 ⟨rfl,hb1⟩;have hB1:=(Zk w (.cells #[.int .i64 k,.int .i64 a,.int .i64 b] 24)).trans (hb1.mono (by simp));clear hb1;go_wp2;go_ret;exact⟨rfl,Zx hB1 _⟩
theorem Bq(k a b:Int)(w:World)(r:Bool)(hg:Zg k a b=r) :
  Calls prog 65 #[.agg #[.int .i64 k,.int .i64 a,.int .i64 b]] w fun e w'=>e=.returned (.bool r)∧Below w.1.size w w':=by
 cases r with
 |false=>exact implGood0 k a b w hg
 |true =>
  rcases kinds k with rfl|rfl|rfl|rfl|⟨h1,h2,h3,h4⟩
  ·exact implGood1 a b w hg
  ·exact implGood2 a b w hg
  ·exact implGood3 a b w hg
  ·exact implGood4 a b w hg
  ·rw[goodSt0 h1 h2 h3 h4]at hg;cases hg
def Uf(k a b:Int):Int:=if Zg k a b=true then(if k=3 then a else 1)else 0
theorem Gn(k a b:Int)(w:World) :
  Calls prog 146 #[.agg #[.int .i64 k,.int .i64 a,.int .i64 b]] w fun e w'=>e=.returned (.int .i64 1)∧Below w.1.size w w':=by
 go_enter func146,ntmps146;go_wp2;go_ret;exact⟨rfl,Zk _ _⟩
theorem expandedTo_is(k a b:Int)(w:World) :
  Calls prog 151 #[.agg #[.int .i64 k,.int .i64 a,.int .i64 b]] w fun e w'=>e=.returned (.int .i64 a)∧Below w.1.size w w':=by
 go_enter func151,ntmps151;go_wp2;go_ret;exact⟨rfl,Zk _ _⟩
theorem implFact0(k a b:Int)(w:World)(hg:Zg k a b=false) :
  Calls prog 195 #[.agg #[.int .i64 k,.int .i64 a,.int .i64 b]] w fun e w'=>e=.returned (.int .i64 0)∧Below w.1.size w w':=by
 go_enter func195,ntmps195;go_wp2_with fail;refine(Pg k a b _ hg).mono ?_;rintro e w1 ⟨rfl,hb1⟩;have hB1:=(Zk w (.cells #[.int .i64 k,.int .i64 a,.int .i64 b] 24)).trans (hb1.mono (by simp));clear hb1;go_wp2;go_ret;exact⟨rfl,Zx hB1 _⟩
theorem implFact1(a b:Int)(w:World)(hg:Zg 1 a b=true) :
  Calls prog 195 #[.agg #[.int .i64 1,.int .i64 a,.int .i64 b]] w fun e w'=>e=.returned (.int .i64 1)∧Below w.1.size w w':=by
 go_enter func195,ntmps195;go_wp2_with fail;refine(Vb a b _ hg).mono ?_;rintro e w1 ⟨rfl,hb1⟩;have hB1:=Zx ((Zk w (.cells #[.int .i64 1,.int .i64 a,.int .i64 b] 24)).trans (hb1.mono (by simp))) (.cells #[.func (.func 144) #[] #[],.func (.func 145) #[] #[],.func (.func 146) #[] #[]] 147);have XS:=Zd (((Bx.new (w:=w) (p:=w.1.size) [.int .i64 1,.int .i64 a,.int .i64 b] 24 rfl).later hb1).alloc (.cells #[.func (.func 144) #[] #[],.func (.func 145) #[] #[],.func (.func 146) #[] #[]] 147));have XK:=Zd (Bx.new (w:=w1) (p:=w1.1.size) [.func (.func 144) #[] #[],.func (.func 145) #[] #[],.func (.func 146) #[] #[]] 147 rfl);clear hb1;obtain⟨s0,s1,s2⟩:=XS.o.y3;obtain⟨k0,k1,k2⟩:=XK.o.y3;go_wp2_with fail;refine(Gn 1 a b _).mono ?_;rintro e w2 ⟨rfl,hb2⟩;have hB2:=hB1.trans (hb2.mono hB1.size);clear hb2 hB1 XS XK s0 s1 s2 k0 k1 k2;go_wp2;go_ret;exact⟨rfl,hB2⟩
theorem implFact2(a b:Int)(w:World)(hg:Zg 2 a b=true) :
  Calls prog 195 #[.agg #[.int .i64 2,.int .i64 a,.int .i64 b]] w fun e w'=>e=.returned (.int .i64 1)∧Below w.1.size w w':=by
 go_enter func195,ntmps195;go_wp2_with fail;refine(Va a b _ hg).mono ?_;rintro e w1 ⟨rfl,hb1⟩;have hB1:=Zx ((Zk w (.cells #[.int .i64 2,.int .i64 a,.int .i64 b] 24)).trans (hb1.mono (by simp))) (.cells #[.func (.func 147) #[] #[],.func (.func 148) #[] #[],.func (.func 146) #[] #[]] 147);have XS:=Zd (((Bx.new (w:=w) (p:=w.1.size) [.int .i64 2,.int .i64 a,.int .i64 b] 24 rfl).later hb1).alloc (.cells #[.func (.func 147) #[] #[],.func (.func 148) #[] #[],.func (.func 146) #[] #[]] 147));have XK:=Zd (Bx.new (w:=w1) (p:=w1.1.size) [.func (.func 147) #[] #[],.func (.func 148) #[] #[],.func (.func 146) #[] #[]] 147 rfl);clear hb1;obtain⟨s0,s1,s2⟩:=XS.o.y3;obtain⟨k0,k1,k2⟩:=XK.o.y3;go_wp2_with fail;refine(Gn 2 a b _).mono ?_;rintro e w2 ⟨rfl,hb2⟩;have hB2:=hB1.trans (hb2.mono hB1.size);clear hb2 hB1 XS XK s0 s1 s2 k0 k1 k2;go_wp2;go_ret;exact⟨rfl,hB2⟩
theorem implFact3(a b:Int)(w:World)(hg:Zg 3 a b=true) :
  Calls prog 195 #[.agg #[.int .i64 3,.int .i64 a,.int .i64 b]] w fun e w'=>e=.returned (.int .i64 a)∧Below w.1.size w w':=by
 go_enter func195,ntmps195;go_wp2_with fail;refine(Vy a b _ hg).mono ?_;rintro e w1 ⟨rfl,hb1⟩;have hB1:=Zx ((Zk w (.cells #[.int .i64 3,.int .i64 a,.int .i64 b] 24)).trans (hb1.mono (by simp))) (.cells #[.func (.func 149) #[] #[],.func (.func 150) #[] #[],.func (.func 151) #[] #[]] 147);have XS:=Zd (((Bx.new (w:=w) (p:=w.1.size) [.int .i64 3,.int .i64 a,.int .i64 b] 24 rfl).later hb1).alloc (.cells #[.func (.func 149) #[] #[],.func (.func 150) #[] #[],.func (.func 151) #[] #[]] 147));have XK:=Zd (Bx.new (w:=w1) (p:=w1.1.size) [.func (.func 149) #[] #[],.func (.func 150) #[] #[],.func (.func 151) #[] #[]] 147 rfl);clear hb1;obtain⟨s0,s1,s2⟩:=XS.o.y3;obtain⟨k0,k1,k2⟩:=XK.o.y3;go_wp2_with fail;refine(expandedTo_is 3 a b _).mono ?_;rintro e w2 ⟨rfl,hb2⟩;have hB2:=hB1.trans (hb2.mono hB1.size);clear hb2 hB1 XS XK s0 s1 s2 k0 k1 k2;go_wp2;go_ret;exact⟨rfl,hB2⟩
theorem implFact4(a b:Int)(w:World)(hg:Zg 4 a b=true) :
  Calls prog 195 #[.agg #[.int .i64 4,.int .i64 a,.int .i64 b]] w fun e w'=>e=.returned (.int .i64 1)∧Below w.1.size w w':=by
 go_enter func195,ntmps195;go_wp2_with fail;refine(Vw a b _ hg).mono ?_;rintro e w1 ⟨rfl,hb1⟩;have hB1:=Zx ((Zk w (.cells #[.int .i64 4,.int .i64 a,.int .i64 b] 24)).trans (hb1.mono (by simp))) (.cells #[.func (.func 147) #[] #[],.func (.func 152) #[] #[],.func (.func 146) #[] #[]] 147);have XS:=Zd (((Bx.new (w:=w) (p:=w.1.size) [.int .i64 4,.int .i64 a,.int .i64 b] 24 rfl).later hb1).alloc (.cells #[.func (.func 147) #[] #[],.func (.func 152) #[] #[],.func (.func 146) #[] #[]] 147));have XK:=Zd (Bx.new (w:=w1) (p:=w1.1.size) [.func (.func 147) #[] #[],.func (.func 152) #[] #[],.func (.func 146) #[] #[]] 147 rfl);clear hb1;obtain⟨s0,s1,s2⟩:=XS.o.y3;obtain⟨k0,k1,k2⟩:=XK.o.y3;go_wp2_with fail;refine(Gn 4 a b _).mono ?_;rintro e w2 ⟨rfl,hb2⟩;have hB2:=hB1.trans (hb2.mono hB1.size);clear hb2 hB1 XS XK s0 s1 s2 k0 k1 k2;go_wp2;go_ret;exact⟨rfl,hB2⟩
theorem Bj(k a b:Int)(w:World)(z:Int)(hz:Uf k a b=z) :
  Calls prog 195 #[.agg #[.int .i64 k,.int .i64 a,.int .i64 b]] w fun e w'=>e=.returned (.int .i64 z)∧Below w.1.size w w':=by
 subst hz
 unfold Uf
 rcases hg:Zg k a b with _|_
 ·exact implFact0 k a b w hg
 ·rw[if_pos rfl]
  rcases kinds k with rfl|rfl|rfl|rfl|⟨h1,h2,h3,h4⟩
  ·exact implFact1 a b w hg
  ·exact implFact2 a b w hg
  ·exact implFact3 a b w hg
  ·exact implFact4 a b w hg
  ·rw[goodSt0 h1 h2 h3 h4]at hg;cases hg
theorem Yl(k a b:Int)(w:World)(z:Int)(hz:Uf k a b=z) :
  Calls prog 212 #[.agg #[.int .i64 k,.int .i64 a,.int .i64 b]] w fun e w'=>e=.returned (.int .i64 z)∧Below w.1.size w w':=by
 subst hz
 unfold Uf
 rcases hg:Zg k a b with _|_
 ·have HG:=Zd hg;clear hg;go_enter func212,ntmps212;go_wp2_with fail;refine(Js k a b _ _ HG.o).mono ?_;rintro e w1 ⟨rfl,hw1⟩;rw[hw1];clear hw1 w1
  go_wp2;go_ret;exact⟨rfl,Qf _ _ _⟩
 ·have HG:=Zd hg;clear hg;rw[if_pos rfl]
  by_cases h3:k=3
  ·subst h3;go_enter func212,ntmps212;go_wp2_with fail;refine(Js 3 a b _ _ HG.o).mono ?_;rintro e w1 ⟨rfl,hw1⟩;rw[hw1];clear hw1 w1
   go_wp2;go_ret;exact⟨rfl,Qf _ _ _⟩
  ·have k3:(k==3)=false:=by simpa using h3
   rw[if_neg h3];clear h3;go_enter func212,ntmps212;go_wp2_with fail;refine(Js k a b _ _ HG.o).mono ?_;rintro e w1 ⟨rfl,hw1⟩;rw[hw1];clear hw1 w1
   go_wp2;go_ret;exact⟨rfl,Qf _ _ _⟩
theorem mod_neg(a n:Int)(hn:0<n)(h:a.tmod n<0):a % n=a.tmod n+n:=by
 have h2 : -n<a.tmod n:=by have:=Int.lt_tmod_of_pos a hn;omega
 have e:a=n*a.tdiv n+a.tmod n:=(Int.mul_tdiv_add_tmod a n).symm;have:a % n=(a.tmod n+n) % n:=by
  conv=>lhs;rw[e]
  rw[Int.add_emod_right,Int.mul_add_emod_self_left]
 rw[this,Int.emod_eq_of_lt (by omega) (by omega)]
theorem mod_pos(a n:Int)(hn:0<n)(h:¬a.tmod n<0):a % n=a.tmod n:=by
 have h1:a.tmod n<n:=Int.tmod_lt_of_pos a hn;have e:a=n*a.tdiv n+a.tmod n:=(Int.mul_tdiv_add_tmod a n).symm;have:a % n=(a.tmod n) % n:=by
  conv=>lhs;rw[e]
  rw[Int.mul_add_emod_self_left]
 rw[this,Int.emod_eq_of_lt (by omega) (by omega)]
theorem Lj(a n:Int)(w:World)(z:Int)(hz:a % n=z)(hn:0<n)(hn2:n≤1048576) :
  Calls prog 253 #[.int .i64 a,.int .i64 n] w fun e w'=>e=.returned (.int .i64 z)∧w'=w:=by
 subst hz;have h1:a.tmod n<n:=Int.tmod_lt_of_pos a hn;have h2 : -n<a.tmod n:=by have:=Int.lt_tmod_of_pos a hn;omega
 have hne:n≠0:=by omega
 go_enter func253,ntmps253
 by_cases h:a.tmod n<0
 ·rw[mod_neg a n hn h];go_wp2;go_ret;exact⟨rfl,rfl⟩
 ·rw[mod_pos a n hn h];go_wp2;go_ret;exact⟨rfl,rfl⟩
theorem Rv(a n:Int)(w:World)(z:Int)(hz:a % n=z)(hn:0<n)(hn2:n≤1048576) :
  Calls prog 188 #[.int .i64 a,.int .i64 n] w fun e w'=>e=.returned (.int .i64 z)∧w'=w:=by
 subst hz;have h1:a.tmod n<n:=Int.tmod_lt_of_pos a hn;have h2 : -n<a.tmod n:=by have:=Int.lt_tmod_of_pos a hn;omega
 have hne:n≠0:=by omega
 go_enter func188,ntmps188
 by_cases h:a.tmod n<0
 ·rw[mod_neg a n hn h];go_wp2;go_ret;exact⟨rfl,rfl⟩
 ·rw[mod_pos a n hn h];go_wp2;go_ret;exact⟨rfl,rfl⟩
def cutI(n:Int):Int:=if n>1000000 then 1000000 else if n < -1000000 then -1000000 else n
theorem cutI_val(n:Int):Ju (cutI n)=true:=by
 unfold cutI Ju
 split
 ·decide
 ·split
  ·decide
  ·simp;omega
theorem l7Cut_is(n:Int)(w:World)(z:Int)(hz:cutI n=z) :
  Calls prog 252 #[.int .i64 n] w fun e w'=>e=.returned (.int .i64 z)∧w'=w:=by
 subst hz
 unfold cutI
 by_cases h:n>1000000
 ·rw[if_pos h];have h':decide (1000000<n)=true:=by simpa using h
  go_enter func252,ntmps252;go_wp2;go_ret;exact⟨rfl,rfl⟩
 ·rw[if_neg h]
  by_cases h2:n < -1000000
  ·rw[if_pos h2];go_enter func252,ntmps252;go_wp2;go_ret;exact⟨rfl,rfl⟩
  ·rw[if_neg h2];go_enter func252,ntmps252;go_wp2;go_ret;exact⟨rfl,rfl⟩
theorem cutTo_is(n:Int)(w:World)(z:Int)(hz:cutI n=z) :
  Calls prog 187 #[.int .i64 n] w fun e w'=>e=.returned (.int .i64 z)∧w'=w:=by
 subst hz
 unfold cutI
 by_cases h:n>1000000
 ·rw[if_pos h];go_enter func187,ntmps187;go_wp2
  all_goals go_ret
  all_goals exact⟨Xc (by omega),rfl⟩
 ·rw[if_neg h]
  by_cases h2:n < -1000000
  ·rw[if_pos h2];go_enter func187,ntmps187;go_wp2
   all_goals go_ret
   all_goals exact⟨Xc (by omega),rfl⟩
  ·rw[if_neg h2];go_enter func187,ntmps187;go_wp2
   all_goals go_ret
   all_goals exact⟨Xc (by omega),rfl⟩
def De(n:Nat)(b v:Int):List Int:=(List.range n).map fun i:Nat=>cutI (v+(i:Int)*b)
def Jo(k a b v:Int):List Int×Bool :=
 if k=1 then([cutI (v*a+b)],false)
 else if k=2 then(if v % a=b then[v]else[],false)
 else if k=3 then(De a.toNat b v,false)
 else if v % a=b then([],true)else([v],false)
theorem Lw(n:Nat)(b v:Int):(De n b v).length=n:=by simp[De]
theorem expI_succ(n:Nat)(b v:Int):De (n+1) b v=De n b v++[cutI (v+(n:Int)*b)]:=by simp[De,List.range_succ]
theorem good3{a b:Int}(h:Zg 3 a b=true):1≤a∧a≤3∧-1000≤b∧b≤1000:=by
 rw[goodSt3]at h;simpa[and_assoc]using h
theorem good2{a b:Int}(h:Zg 2 a b=true):1≤a∧a≤1000∧0≤b∧b≤a-1:=by
 rw[goodSt2]at h;simpa[and_assoc]using h
theorem good4{a b:Int}(h:Zg 4 a b=true):1≤a∧a≤1000∧0≤b∧b≤a-1:=by
 rw[goodSt4]at h;simpa[and_assoc]using h
theorem good1{a b:Int}(h:Zg 1 a b=true) : -100≤a∧a≤100∧-1000000≤b∧b≤1000000:=by
 rw[goodSt1]at h;simpa[Ju,and_assoc]using h
theorem val_of{v:Int}(h:Ju v=true) : -1000000≤v∧v≤1000000:=by simpa[Ju]using h
theorem Xe{k a b:Int}(h:Zg k a b=true):k=1∨k=2∨k=3∨k=4:=by
 rcases kinds k with h1|h1|h1|h1|⟨h1,h2,h3,h4⟩
 ·exact .inl h1
 ·exact .inr (.inl h1)
 ·exact .inr (.inr (.inl h1))
 ·exact .inr (.inr (.inr h1))
 ·rw[goodSt0 h1 h2 h3 h4]at h;cases h
theorem Dw(a b v:Int):Jo 2 a b v=(if v % a=b then[v]else[],false):=rfl
theorem appSt3(a b v:Int):Jo 3 a b v=(De a.toNat b v,false):=rfl
theorem Dv(a b v:Int):Jo 4 a b v=if v % a=b then([],true)else([v],false):=rfl
theorem appSt_len{k a b v:Int}(h:Zg k a b=true):(Jo k a b v).1.length≤3:=by
 rcases Xe h with rfl|rfl|rfl|rfl
 ·simp[Jo]
 ·rw[Dw];dsimp only;split <;> simp
 ·have:=good3 h;rw[appSt3];dsimp only;rw[Lw];omega
 ·rw[Dv];split <;> simp
theorem Dx{k a b v:Int}(h:Zg k a b=true)(hv:Ju v=true):∀x∈(Jo k a b v).1,Ju x=true:=by
 intro x hx
 rcases Xe h with rfl|rfl|rfl|rfl
 ·simp[Jo]at hx;subst hx;exact cutI_val _
 ·rw[Dw]at hx;dsimp only at hx
  split at hx <;> simp at hx;subst hx;exact hv
 ·rw[appSt3]at hx;dsimp only at hx
  simp[De]at hx;obtain⟨i,_,rfl⟩:=hx;exact cutI_val _
 ·rw[Dv]at hx
  split at hx <;> simp at hx;subst hx;exact hv
theorem mul_le100{v a:Int}(h1 : -1000000≤v∧v≤1000000)(h2 : -100≤a∧a≤100) : -100000000≤v*a∧v*a≤100000000:=by
 have hn:(v*a).natAbs≤1000000*100:=by rw[Int.natAbs_mul];exact Nat.mul_le_mul (by omega) (by omega)
 omega
end Go.Proofs.YtdacedbfnlkghaaGreatDoor