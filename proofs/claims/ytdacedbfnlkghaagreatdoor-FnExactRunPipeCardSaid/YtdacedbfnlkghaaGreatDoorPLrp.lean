/- The law of RunPipe: it returns true. No conditions but those written. -/
import Derived.Test.YtdacedbfnlkghaaGreatDoorPSlpRab
namespace Go.Proofs.YtdacedbfnlkghaaGreatDoor
set_option maxHeartbeats 2000000
open Go.Proofs.Tryz
open Go.RowKit
theorem Da(s:ByteArray)(ea:Nat→Addr)(w:World)(hV:Env w.1.size w ea) :
  Calls prog 4 #[.string s] w fun e w'=>e=.returned (.bool true)∧Below w.1.size w w':=by
 by_cases hbig:1048576<s.size
 ·have hbig':decide (1048576<(s.size:Int))=true:=by simp;omega
  go_enter func4,ntmps4;go_wp2;go_ret;exact⟨rfl,Below.refl _ _⟩
 have hbig':decide (1048576<(s.size:Int))=false:=by simp;omega
 obtain⟨T,hT⟩:=nmd (tx (Rh (Qx st0 (Qm s).1).2));have HSP:Zi (∀W,Calls prog 14 #[.string s] W fun e W'=>e=.returned (.string T)∧Below W.1.size W W'):=fun W=>by rw[hT];exact Dx s W (by omega)
 have HIM:Zi (∀W,Below w.1.size w W→Calls prog 13 #[.string s] W fun e W'=>e=.returned (.string T)∧Below W.1.size W W'):=fun W hW=>by rw[hT];exact runPipe_is w.1.size s W ea (by omega) (hV.step hW) hW.size
 have hTT:(T.toList != T.toList)=false:=by simp
 clear hT hV;go_enter func4,ntmps4;go_wp2_with fail;refine(HSP.o _).mono ?_;rintro e w1 ⟨rfl,hb1⟩;have HB1:=Zd hb1;clear hb1;go_wp2_with fail;refine(HIM.o _ HB1.o).mono ?_;rintro e w2 ⟨rfl,hb2⟩;have HB2:=Zd (HB1.o.trans (hb2.mono HB1.o.size));clear hb2;go_wp2;go_ret;exact⟨rfl,HB2.o⟩
end Go.Proofs.YtdacedbfnlkghaaGreatDoor