/- What chapter 13's rows say of the package's variables; and a world that has them. No conditions but those written. -/
import Derived.Test.YtdacedbfnlkghaaGreatDoorUIcSmv
import Derived.Lib.LaidTab
import Derived.ChangeSame
import Derived.ChangeVars
import Derived.JoinedOf
import Derived.RowKit
import Derived.LaidLaws
import Derived.LaidHandle
import Derived.Stop.Joined
import Derived.Stop.LaidErr
import Derived.Stop.LaidTwo
import Derived.Deep.Strs
namespace Go.Proofs.YtdacedbfnlkghaaGreatDoor
set_option maxHeartbeats 1000000
set_option maxRecDepth 100000
open Go.Proofs.Tryz
open Go.ChangeShapes Go.WideShapes Go.RowKit Go.Stop
def wordL:List (List UInt8):=[[],[109,97,112],[102,105,108,116,101,114],[101,120,112,97,110,100],[112,111,105,115,111,110]]
theorem wordL_at{j:Nat}(h:j<5){s:ByteArray}(e:wordL[j]? = some s.data.toList):s=Qs (j:Int):=by
 have hx:∀x:ByteArray,s.data.toList=x.data.toList→s=x:=fun x hx=>by
  apply ByteArray.ext
  exact Array.toList_inj.1 hx
 rcases(show j=0∨j=1∨j=2∨j=3∨j=4 from by omega)with rfl|rfl|rfl|rfl|rfl
 ·exact hx _ (Option.some.inj e).symm
 ·exact hx _ (Option.some.inj e).symm
 ·exact hx _ (Option.some.inj e).symm
 ·exact hx _ (Option.some.inj e).symm
 ·exact hx _ (Option.some.inj e).symm
theorem Tryz.gnW:prog.globalNamed "loop.example/g00145/impl.stageWords" = some 0:=by kernel_rfl
theorem Tryz.gtW:(prog.globals[0]?).map (·.type)=some 117:=by kernel_rfl
theorem Tryz.undW:prog.underlying 117=some (.array 5 9):=by kernel_rfl
theorem Tryz.cellW:prog.cellsOf 117=5:=by kernel_rfl
theorem Tryz.cellT:prog.cellsOf 9=1:=by kernel_rfl
theorem words_of_head{W:World}{rest:List (String×DataW Unit)} (h:laidMet prog (("loop.example/g00145/impl.stageWords",Rows.laid_loop_example_g00145_impl_stageWords)::rest) W):Wds W:=by
 obtain⟨ps,⟨g',t',cs,fuel,p,q,hg',ht',hvar,hd,_,_⟩,_⟩:=h;obtain rfl:=Option.some.inj (Tryz.gnW.symm.trans hg');obtain rfl:=Option.some.inj (Tryz.gtW.symm.trans ht');have hcell:∀j:Nat,j<5→cs[j]? = some (Value.string (Qs (j:Int))):=by
  cases fuel with
  |zero=>simp[DataW.trod]at hd
  |succ fuel =>
   simp only[DataW.trod,Tryz.undW,Tryz.cellT,Tryz.cellW,Nat.mul_one]at hd
   split at hd
   ·obtain⟨xs,hm,hx⟩:=Option.map_eq_some_iff.1 hd;intro j hj;obtain⟨b,hb,hf⟩:=Lib.mapM_at hm j j (by simp[hj]);obtain⟨s,hc,hb1,_⟩:=DataW.trod_string underlying9 hf;have h1:cs[j]? = some (.string s):=by
     have:=congrArg (fun l:List Value=>l[0]?) hc
     simpa[List.getElem?_take,List.getElem?_drop]using this
    rw[h1];have h3:xs.map (·.1)=wordL.map fun l=>(DataW.lit (.string l):DataW Unit):=by
     have:=congrArg Prod.fst hx
     simpa[Rows.laid_loop_example_g00145_impl_stageWords,wordL]using this
    have h2:(xs.map (·.1))[j]? = some (DataW.lit (.string s.data.toList):DataW Unit):=by rw[List.getElem?_map,hb,hb1];rfl
    rw[h3,List.getElem?_map]at h2;obtain⟨l,hl,e⟩:=Option.map_eq_some_iff.1 h2;simp only[DataW.lit.injEq,Lit.string.injEq]at e;rw[e]at hl;rw[wordL_at hj hl]
   ·cases hd
 have hcl:∀j:Nat,j<5→W.cell? ⟨0,j,none⟩=some (.string (Qs (j:Int))):=fun j hj=>by
  have:=World.var?_cell Tryz.gnW hvar j;rw[this];simpa using hcell j hj
 exact⟨World.block_lt_of_cell? _ _ (hcl 0 (by omega)),hcl⟩
theorem Tryz.gn0:prog.globalNamed "loop.example/g00145/impl.errMany" = some 6:=by kernel_rfl
theorem Tryz.gt0:(prog.globals[6]?).map (·.type)=some 80:=by kernel_rfl
theorem Tryz.gn1:prog.globalNamed "loop.example/g00145/impl.errName" = some 7:=by kernel_rfl
theorem Tryz.gt1:(prog.globals[7]?).map (·.type)=some 80:=by kernel_rfl
theorem Tryz.gn2:prog.globalNamed "loop.example/g00145/impl.errTwice" = some 8:=by kernel_rfl
theorem Tryz.gt2:(prog.globals[8]?).map (·.type)=some 80:=by kernel_rfl
theorem Tryz.gn3:prog.globalNamed "loop.example/g00145/impl.errStage" = some 9:=by kernel_rfl
theorem Tryz.gt3:(prog.globals[9]?).map (·.type)=some 80:=by kernel_rfl
theorem Tryz.gn4:prog.globalNamed "loop.example/g00145/impl.errCap" = some 10:=by kernel_rfl
theorem Tryz.gt4:(prog.globals[10]?).map (·.type)=some 80:=by kernel_rfl
theorem Tryz.gn5:prog.globalNamed "loop.example/g00145/impl.errEdge" = some 11:=by kernel_rfl
theorem Tryz.gt5:(prog.globals[11]?).map (·.type)=some 80:=by kernel_rfl
theorem Tryz.gn6:prog.globalNamed "loop.example/g00145/impl.errCycle" = some 12:=by kernel_rfl
theorem Tryz.gt6:(prog.globals[12]?).map (·.type)=some 80:=by kernel_rfl
theorem Tryz.cellsE:prog.cellsOf 229=1:=by kernel_rfl
theorem Tryz.cellsS:prog.cellsOf 9=1:=by kernel_rfl
theorem Tryz.star : "*" ++ "errors.errorString" = "*errors.errorString" := by decide
theorem Tryz.rowE(u:TypeId) (h:prog.typeName? 3 u=some "*errors.errorString"):u=227 :=
 typeName_ptr_named (nm := "errors.errorString") (by rw[Tryz.star];kernel_rfl) (by kernel_rfl) (by decide) u (by rw[Tryz.star];exact h)
theorem Tryz.gnR:prog.globalNamed "strconv.ErrRange" = some 5:=by kernel_rfl
theorem Tryz.gtR:(prog.globals[5]?).map (·.type)=some 80:=by kernel_rfl
theorem Tryz.gnX:prog.globalNamed "strconv.ErrSyntax" = some 4:=by kernel_rfl
theorem Tryz.gtX:(prog.globals[4]?).map (·.type)=some 80:=by kernel_rfl
theorem Tryz.cellsE2:prog.cellsOf 229=1:=by kernel_rfl
theorem Tryz.star2 : "*" ++ "errors.errorString" = "*errors.errorString" := by decide
theorem Tryz.rowE2(u:TypeId) (h:prog.typeName? 3 u=some "*errors.errorString"):u=227 :=
 typeName_ptr_named (nm := "errors.errorString") (by rw[Tryz.star2];kernel_rfl) (by kernel_rfl) (by decide) u (by rw[Tryz.star2];exact h)
theorem errsB_of_head{W:World}{rest:List (String×DataW Unit)} (h0:laidMet prog (("loop.example/g00145/impl.errMany",Rows.laid_loop_example_g00145_impl_errMany)::("loop.example/g00145/impl.errName",Rows.laid_loop_example_g00145_impl_errName)::("loop.example/g00145/impl.errTwice",Rows.laid_loop_example_g00145_impl_errTwice)::("loop.example/g00145/impl.errStage",Rows.laid_loop_example_g00145_impl_errStage)::("loop.example/g00145/impl.errCap",Rows.laid_loop_example_g00145_impl_errCap)::("loop.example/g00145/impl.errEdge",Rows.laid_loop_example_g00145_impl_errEdge)::("loop.example/g00145/impl.errCycle",Rows.laid_loop_example_g00145_impl_errCycle)::rest) W):∃ea:Nat→Addr,Errs W ea∧ErrB W ea:=by
 have h1:=h0.tail;have h2:=h1.tail;have h3:=h2.tail;have h4:=h3.tail;have h5:=h4.tail;obtain⟨a0,a1,s0,s1,b0,b1,y0,y1,v0,v1,c0,t0,_,c1,t1,_,_,k0,k1⟩:=laid_sentinels2 h0 Tryz.gn0 Tryz.gt0 Tryz.gn1 Tryz.gt1 underlying80 Tryz.rowE underlying227 underlying229 rfl rfl underlying9 Tryz.cellsE Tryz.cellsS;obtain⟨a2,a3,s2,s3,b2,b3,y2,y3,v2,v3,c2,t2,_,c3,t3,_,_,k2,k3⟩:=laid_sentinels2 h2 Tryz.gn2 Tryz.gt2 Tryz.gn3 Tryz.gt3 underlying80 Tryz.rowE underlying227 underlying229 rfl rfl underlying9 Tryz.cellsE Tryz.cellsS;obtain⟨a4,a5,s4,s5,b4,b5,y4,y5,v4,v5,c4,t4,_,c5,t5,_,_,k4,k5⟩:=laid_sentinels2 h4 Tryz.gn4 Tryz.gt4 Tryz.gn5 Tryz.gt5 underlying80 Tryz.rowE underlying227 underlying229 rfl rfl underlying9 Tryz.cellsE Tryz.cellsS;obtain⟨_,a6,_,s6,_,b6,_,y6,_,v6,_,_,_,c6,t6,_,_,_,k6⟩:=laid_sentinels2 h5 Tryz.gn5 Tryz.gt5 Tryz.gn6 Tryz.gt6 underlying80 Tryz.rowE underlying227 underlying229 rfl rfl underlying9 Tryz.cellsE Tryz.cellsS;have d0:W.cell? ⟨6,0,none⟩=some (errV a0):=by simpa using World.var?_cell Tryz.gn0 v0 0
 have d1:W.cell? ⟨7,0,none⟩=some (errV a1):=by simpa using World.var?_cell Tryz.gn1 v1 0
 have d2:W.cell? ⟨8,0,none⟩=some (errV a2):=by simpa using World.var?_cell Tryz.gn2 v2 0
 have d3:W.cell? ⟨9,0,none⟩=some (errV a3):=by simpa using World.var?_cell Tryz.gn3 v3 0
 have d4:W.cell? ⟨10,0,none⟩=some (errV a4):=by simpa using World.var?_cell Tryz.gn4 v4 0
 have d5:W.cell? ⟨11,0,none⟩=some (errV a5):=by simpa using World.var?_cell Tryz.gn5 v5 0
 have d6:W.cell? ⟨12,0,none⟩=some (errV a6):=by simpa using World.var?_cell Tryz.gn6 v6 0
 have hne:∀(a b:Addr)(s t:ByteArray)(x y:List UInt8),W.cell? a=some (.string s)→W.cell? b=some (.string t)→s.data.toList=x→t.data.toList=y→x≠y→a≠b:=fun a b s t x y h1 h2 h3 h4 h5 e=>by
  subst e;rw[h1]at h2
  simp at h2
  subst h2;exact h5 (h3.symm.trans h4)
 refine⟨fun i=>match i with|0=>a0|1=>a1|2=>a2|3=>a3|4=>a4|5=>a5|_=>a6,⟨fun i hi=>?_,?_⟩,⟨fun i hi=>?_,fun i j hi hj hij=>?_⟩⟩
 ·rcases(show i=0∨i=1∨i=2∨i=3∨i=4∨i=5∨i=6 from by omega)with rfl|rfl|rfl|rfl|rfl|rfl|rfl
  ·exact d0
  ·exact d1
  ·exact d2
  ·exact d3
  ·exact d4
  ·exact d5
  ·exact d6
 ·have z0:6<W.1.size:=World.block_lt_of_cell? _ _ d0;have z1:7<W.1.size:=World.block_lt_of_cell? _ _ d1;have z2:8<W.1.size:=World.block_lt_of_cell? _ _ d2;have z3:9<W.1.size:=World.block_lt_of_cell? _ _ d3;have z4:10<W.1.size:=World.block_lt_of_cell? _ _ d4;have z5:11<W.1.size:=World.block_lt_of_cell? _ _ d5;have z6:12<W.1.size:=World.block_lt_of_cell? _ _ d6
  omega
 ·rcases(show i=0∨i=1∨i=2∨i=3∨i=4∨i=5∨i=6 from by omega)with rfl|rfl|rfl|rfl|rfl|rfl|rfl
  ·exact⟨_,_,k0⟩
  ·exact⟨_,_,k1⟩
  ·exact⟨_,_,k2⟩
  ·exact⟨_,_,k3⟩
  ·exact⟨_,_,k4⟩
  ·exact⟨_,_,k5⟩
  ·exact⟨_,_,k6⟩
 ·rcases(show i=0∨i=1∨i=2∨i=3∨i=4∨i=5∨i=6 from by omega)with rfl|rfl|rfl|rfl|rfl|rfl|rfl <;> rcases(show j=0∨j=1∨j=2∨j=3∨j=4∨j=5∨j=6 from by omega)with rfl|rfl|rfl|rfl|rfl|rfl|rfl
  ·exact absurd rfl hij
  ·exact hne _ _ _ _ _ _ c0 c1 t0 t1 (by decide)
  ·exact hne _ _ _ _ _ _ c0 c2 t0 t2 (by decide)
  ·exact hne _ _ _ _ _ _ c0 c3 t0 t3 (by decide)
  ·exact hne _ _ _ _ _ _ c0 c4 t0 t4 (by decide)
  ·exact hne _ _ _ _ _ _ c0 c5 t0 t5 (by decide)
  ·exact hne _ _ _ _ _ _ c0 c6 t0 t6 (by decide)
  ·exact hne _ _ _ _ _ _ c1 c0 t1 t0 (by decide)
  ·exact absurd rfl hij
  ·exact hne _ _ _ _ _ _ c1 c2 t1 t2 (by decide)
  ·exact hne _ _ _ _ _ _ c1 c3 t1 t3 (by decide)
  ·exact hne _ _ _ _ _ _ c1 c4 t1 t4 (by decide)
  ·exact hne _ _ _ _ _ _ c1 c5 t1 t5 (by decide)
  ·exact hne _ _ _ _ _ _ c1 c6 t1 t6 (by decide)
  ·exact hne _ _ _ _ _ _ c2 c0 t2 t0 (by decide)
  ·exact hne _ _ _ _ _ _ c2 c1 t2 t1 (by decide)
  ·exact absurd rfl hij
  ·exact hne _ _ _ _ _ _ c2 c3 t2 t3 (by decide)
  ·exact hne _ _ _ _ _ _ c2 c4 t2 t4 (by decide)
  ·exact hne _ _ _ _ _ _ c2 c5 t2 t5 (by decide)
  ·exact hne _ _ _ _ _ _ c2 c6 t2 t6 (by decide)
  ·exact hne _ _ _ _ _ _ c3 c0 t3 t0 (by decide)
  ·exact hne _ _ _ _ _ _ c3 c1 t3 t1 (by decide)
  ·exact hne _ _ _ _ _ _ c3 c2 t3 t2 (by decide)
  ·exact absurd rfl hij
  ·exact hne _ _ _ _ _ _ c3 c4 t3 t4 (by decide)
  ·exact hne _ _ _ _ _ _ c3 c5 t3 t5 (by decide)
  ·exact hne _ _ _ _ _ _ c3 c6 t3 t6 (by decide)
  ·exact hne _ _ _ _ _ _ c4 c0 t4 t0 (by decide)
  ·exact hne _ _ _ _ _ _ c4 c1 t4 t1 (by decide)
  ·exact hne _ _ _ _ _ _ c4 c2 t4 t2 (by decide)
  ·exact hne _ _ _ _ _ _ c4 c3 t4 t3 (by decide)
  ·exact absurd rfl hij
  ·exact hne _ _ _ _ _ _ c4 c5 t4 t5 (by decide)
  ·exact hne _ _ _ _ _ _ c4 c6 t4 t6 (by decide)
  ·exact hne _ _ _ _ _ _ c5 c0 t5 t0 (by decide)
  ·exact hne _ _ _ _ _ _ c5 c1 t5 t1 (by decide)
  ·exact hne _ _ _ _ _ _ c5 c2 t5 t2 (by decide)
  ·exact hne _ _ _ _ _ _ c5 c3 t5 t3 (by decide)
  ·exact hne _ _ _ _ _ _ c5 c4 t5 t4 (by decide)
  ·exact absurd rfl hij
  ·exact hne _ _ _ _ _ _ c5 c6 t5 t6 (by decide)
  ·exact hne _ _ _ _ _ _ c6 c0 t6 t0 (by decide)
  ·exact hne _ _ _ _ _ _ c6 c1 t6 t1 (by decide)
  ·exact hne _ _ _ _ _ _ c6 c2 t6 t2 (by decide)
  ·exact hne _ _ _ _ _ _ c6 c3 t6 t3 (by decide)
  ·exact hne _ _ _ _ _ _ c6 c4 t6 t4 (by decide)
  ·exact hne _ _ _ _ _ _ c6 c5 t6 t5 (by decide)
  ·exact absurd rfl hij
def cmdL:List (List UInt8×Int×Int):=[([111,102,102,101,114],1,2),([115,116,101,112],2,1),([102,97,117,108,116],3,1),([116,105,99,107],4,1),([100,114,97,105,110],5,0),([97,98,111,114,116],6,0),([114,117,110],7,0),([114,101,112,111,114,116],8,0),([111,117,116],9,0),([108,111,115,116],10,0),([109,101,97,110],11,2)]
theorem cmdL_at{j:Nat}(h:j<11){s:ByteArray}{a b:Int}(e:cmdL[j]? = some (s.data.toList,a,b)):s=Vj j∧a=(j:Int)+1∧b=(Uh j:Int):=by
 have hx:∀x:ByteArray,x.data.toList=s.data.toList→s=x:=fun x hx=>by
  apply ByteArray.ext
  exact(Array.toList_inj.1 hx).symm
 rcases(show j=0∨j=1∨j=2∨j=3∨j=4∨j=5∨j=6∨j=7∨j=8∨j=9∨j=10 from by omega)with rfl|rfl|rfl|rfl|rfl|rfl|rfl|rfl|rfl|rfl|rfl
 all_goals
  have e2:=Option.some.inj e;exact⟨hx _ (congrArg Prod.fst e2),(congrArg (fun z=>z.2.1) e2).symm,(congrArg (fun z=>z.2.2) e2).symm⟩
theorem Tryz.gnC:prog.globalNamed "loop.example/g00145/impl.commands" = some 1:=by kernel_rfl
theorem Tryz.gtC:(prog.globals[1]?).map (·.type)=some 182:=by kernel_rfl
theorem Tryz.undC:prog.underlying 182=some (.array 11 181):=by kernel_rfl
theorem Tryz.cellC11:prog.cellsOf 182=33:=by kernel_rfl
theorem Tryz.cellC3:prog.cellsOf 181=3:=by kernel_rfl
theorem Tryz.cellI:prog.cellsOf 3=1:=by kernel_rfl
theorem cmds_of_head{W:World}{rest:List (String×DataW Unit)} (h:laidMet prog (("loop.example/g00145/impl.commands",Rows.laid_loop_example_g00145_impl_commands)::rest) W):Cmds W:=by
 obtain⟨ps,⟨g',t',cs,fuel,p,q,hg',ht',hvar,hd,_,_⟩,_⟩:=h;obtain rfl:=Option.some.inj (Tryz.gnC.symm.trans hg');obtain rfl:=Option.some.inj (Tryz.gtC.symm.trans ht');have hcell:∀j:Nat,j<11→cs[j*3]? = some (Value.string (Vj j))∧cs[j*3+1]? = some (Value.int .i64 ((j:Int)+1))∧cs[j*3+2]? = some (Value.int .i64 (Uh j:Int)):=by
  cases fuel with
  |zero=>simp[DataW.trod]at hd
  |succ fuel =>
   simp only[DataW.trod,Tryz.undC,Tryz.cellC3,Tryz.cellC11]at hd
   split at hd
   ·obtain⟨xs,hm,hx⟩:=Option.map_eq_some_iff.1 hd;intro j hj;obtain⟨b,hb,hf⟩:=Lib.mapM_at hm j j (by simp[hj]);obtain⟨y0,y1,y2,n,hb1,_,f0,f1,f2⟩:=Go.Deep.trod_struct3 underlying181 hf;obtain⟨s,hc0,e0,_⟩:=DataW.trod_string underlying9 f0;obtain⟨n1,hc1,e1,_⟩:=DataW.trod_int underlying3 f1;obtain⟨n2,hc2,e2,_⟩:=DataW.trod_int underlying3 f2;have c0:cs[j*3]? = some (.string s):=by
     have:=congrArg (fun l:List Value=>l[0]?) hc0
     simpa[List.getElem?_take,List.getElem?_drop,Tryz.cellT,Tryz.cellI]using this
    have c1:cs[j*3+1]? = some (.int .i64 n1):=by
     have:=congrArg (fun l:List Value=>l[0]?) hc1
     simpa[List.getElem?_take,List.getElem?_drop,Tryz.cellT,Tryz.cellI]using this
    have c2:cs[j*3+2]? = some (.int .i64 n2):=by
     have:=congrArg (fun l:List Value=>l[0]?) hc2
     simpa[List.getElem?_take,List.getElem?_drop,Tryz.cellT,Tryz.cellI]using this
    have h3:xs.map (·.1)=cmdL.map fun z=>(DataW.agg [.lit (.string z.1),.lit (.int .i64 z.2.1),.lit (.int .i64 z.2.2)]:DataW Unit):=by
     have:=congrArg Prod.fst hx
     simpa[Rows.laid_loop_example_g00145_impl_commands,cmdL]using this
    have h2:(xs.map (·.1))[j]? = some (DataW.agg [.lit (.string s.data.toList),.lit (.int .i64 n1),.lit (.int .i64 n2)]:DataW Unit):=by
     rw[List.getElem?_map,hb,hb1,e0,e1,e2];rfl
    rw[h3,List.getElem?_map]at h2;obtain⟨z,hz,e⟩:=Option.map_eq_some_iff.1 h2;obtain⟨z1,z2,z3⟩:=z
    simp at e
    obtain⟨rfl,rfl,rfl⟩:=e;obtain⟨rfl,rfl,rfl⟩:=cmdL_at hj hz;exact⟨c0,c1,c2⟩
   ·cases hd
 have hcl:∀j:Nat,j<11→W.cell? ⟨1,j*3,none⟩=some (.string (Vj j))∧W.cell? ⟨1,j*3+1,none⟩=some (.int .i64 ((j:Int)+1))∧W.cell? ⟨1,j*3+2,none⟩=some (.int .i64 (Uh j:Int)):=fun j hj=>by
  obtain⟨a,b,c⟩:=hcell j hj;exact⟨by rw[World.var?_cell Tryz.gnC hvar (j*3)];simpa using a,by rw[World.var?_cell Tryz.gnC hvar (j*3+1)];simpa using b,by rw[World.var?_cell Tryz.gnC hvar (j*3+2)];simpa using c⟩
 exact⟨World.block_lt_of_cell? _ _ (hcl 0 (by omega)).1,hcl⟩
abbrev laidL3:List (String×DataW Unit):=[("math/bits.deBruijn32tab",Rows.laid_math_bits_deBruijn32tab),("math/bits.deBruijn64tab",Rows.laid_math_bits_deBruijn64tab),("internal/strconv.uint64pow10",Rows.laid_internal_strconv_uint64pow10),("strconv.ErrRange",Rows.laid_strconv_ErrRange),("strconv.ErrSyntax",Rows.laid_strconv_ErrSyntax),("loop.example/g00145/impl.errMany",Rows.laid_loop_example_g00145_impl_errMany),("loop.example/g00145/impl.errName",Rows.laid_loop_example_g00145_impl_errName),("loop.example/g00145/impl.errTwice",Rows.laid_loop_example_g00145_impl_errTwice),("loop.example/g00145/impl.errStage",Rows.laid_loop_example_g00145_impl_errStage),("loop.example/g00145/impl.errCap",Rows.laid_loop_example_g00145_impl_errCap),("loop.example/g00145/impl.errEdge",Rows.laid_loop_example_g00145_impl_errEdge),("loop.example/g00145/impl.errCycle",Rows.laid_loop_example_g00145_impl_errCycle),("loop.example/g00145/impl.commands",Rows.laid_loop_example_g00145_impl_commands),("loop.example/g00145/impl.stageWords",Rows.laid_loop_example_g00145_impl_stageWords)]
theorem pow_of_laid3{W:World}(h:laidMetH prog laidL3 W):PowTab W:=by
 have h0:laidMet prog laidL3 W:=h;have h2:=h0.tail.tail;exact Lib.tabIs_of_head (rest:=_) (g:=2) (t:=201) (e:=54) (n:=20) (by kernel_rfl) (by kernel_rfl) (by kernel_rfl) (by kernel_rfl) (by kernel_rfl) (by kernel_rfl) h2
theorem nerr_of_laid3{W:World}(h:laidMetH prog laidL3 W):NErr W:=by
 have h0:laidMet prog laidL3 W:=h;have h3:=h0.tail.tail.tail;obtain⟨a0,s0,v0,c0,t0,_⟩:=laid_sentinel h3 Tryz.gnR Tryz.gtR underlying80 Tryz.rowE2 underlying227 underlying229 rfl rfl underlying9 Tryz.cellsE2 Tryz.cellT;have h4:=h3.tail;obtain⟨a1,s1,v1,c1,t1,_⟩:=laid_sentinel h4 Tryz.gnX Tryz.gtX underlying80 Tryz.rowE2 underlying227 underlying229 rfl rfl underlying9 Tryz.cellsE2 Tryz.cellT;exact⟨⟨_,_,by simpa using World.var?_cell Tryz.gnX v1 0⟩,⟨_,_,by simpa using World.var?_cell Tryz.gnR v0 0⟩⟩
theorem env_of_laid{W:World}(h:laidMetH prog laidL3 W):∃ea:Nat→Addr,Env W.1.size W ea:=by
 have h0:laidMet prog laidL3 W:=h;have h5:=h0.tail.tail.tail.tail.tail;obtain⟨ea,hE,hB⟩:=errsB_of_head h5;have h12:=h5.tail.tail.tail.tail.tail.tail.tail;have hC:=cmds_of_head h12;have hW:=words_of_head h12.tail;have hP:=pow_of_laid3 h;have hN:=nerr_of_laid3 h;exact⟨ea,fun W' hb=>⟨hP.later hb,hN.later hb,hW.later hb,hC.later hb,hE.later hb,hB.later hb⟩⟩
theorem vars_len{H:Type}{enc:TypeId×Value→H}{P:Program}{W:World}{sp:Nat→Bool}:∀{ns:List String}{gs:List (DataW H)}{q:List MemPlace},DataW.TrodVars enc P W sp ns gs q→gs.length=ns.length
 | [],[],_,_=>rfl
 | [],_::_,_,h=>h.elim
 |_::_,[],_,h=>h.elim
 |_::ns,_::gs,_,h=>by
  obtain⟨_,_,_,_,_,_,_,_,_,_,h',_⟩:=h;have:=vars_len h'
  simp[this]
theorem vars_nine{H:Type}{enc:TypeId×Value→H}{P:Program}{W:World}{sp:Nat→Bool}{a b c d e f g h i:String}{gs:List (DataW H)}{q:List MemPlace}(hV:DataW.TrodVars enc P W sp [a,b,c,d,e,f,g,h,i] gs q):∃g1 g2 g3 g4 g5 g6 g7 g8 g9,gs=[g1,g2,g3,g4,g5,g6,g7,g8,g9]:=by
  have h9:=vars_len hV
  match gs,h9 with
  | [g1,g2,g3,g4,g5,g6,g7,g8,g9],_=>exact⟨g1,g2,g3,g4,g5,g6,g7,g8,g9,rfl⟩
noncomputable def low3:Nat:=(World.holding prog default ⟨#[],#[],[]⟩).heap.size
noncomputable def Cj(os:Os):World :=
 let w0:=World.holding prog os ⟨#[.cells #[.string ⟨#[118,97,108,117,101,32,111,117,116,32,111,102,32,114,97,110,103,101]⟩] 229,.cells #[.string ⟨#[105,110,118,97,108,105,100,32,115,121,110,116,97,120]⟩] 229,.cells #[.string ⟨#[110,111,32,110,111,100,101,115,44,32,111,114,32,116,111,111,32,109,97,110,121]⟩] 229,.cells #[.string ⟨#[116,104,101,32,110,97,109,101,32,105,115,32,110,111,110,101]⟩] 229,.cells #[.string ⟨#[97,110,111,116,104,101,114,32,111,110,101,32,104,97,115,32,116,104,101,32,110,97,109,101]⟩] 229,.cells #[.string ⟨#[116,104,101,32,115,116,97,103,101,32,105,115,32,110,111,116,32,103,111,111,100]⟩] 229,.cells #[.string ⟨#[116,104,101,32,99,97,112,32,105,115,32,116,111,111,32,115,109,97,108,108,32,111,114,32,116,111,111,32,103,114,101,97,116]⟩] 229,.cells #[.string ⟨#[97,32,110,101,120,116,32,105,115,32,110,111,32,110,111,100,101,44,32,111,114,32,116,119,105,99,101,32,116,104,101,114,101]⟩] 229,.cells #[.string ⟨#[97,32,110,111,100,101,32,105,115,32,114,101,97,99,104,101,100,32,102,114,111,109,32,105,116,115,101,108,102]⟩] 229],#[],[]⟩
 { w0 with heap:=((((((((((((((w0.heap.modify 13 fun| .cells _ t frozen=>.cells #[.int .u8 0,.int .u8 1,.int .u8 28,.int .u8 2,.int .u8 29,.int .u8 14,.int .u8 24,.int .u8 3,.int .u8 30,.int .u8 22,.int .u8 20,.int .u8 15,.int .u8 25,.int .u8 17,.int .u8 4,.int .u8 8,.int .u8 31,.int .u8 27,.int .u8 13,.int .u8 23,.int .u8 21,.int .u8 19,.int .u8 16,.int .u8 7,.int .u8 26,.int .u8 12,.int .u8 18,.int .u8 6,.int .u8 11,.int .u8 5,.int .u8 10,.int .u8 9] t frozen|o=>o).modify 14 fun| .cells _ t frozen=>.cells #[.int .u8 0,.int .u8 1,.int .u8 56,.int .u8 2,.int .u8 57,.int .u8 49,.int .u8 28,.int .u8 3,.int .u8 61,.int .u8 58,.int .u8 42,.int .u8 50,.int .u8 38,.int .u8 29,.int .u8 17,.int .u8 4,.int .u8 62,.int .u8 47,.int .u8 59,.int .u8 36,.int .u8 45,.int .u8 43,.int .u8 51,.int .u8 22,.int .u8 53,.int .u8 39,.int .u8 33,.int .u8 30,.int .u8 24,.int .u8 18,.int .u8 12,.int .u8 5,.int .u8 63,.int .u8 55,.int .u8 48,.int .u8 27,.int .u8 60,.int .u8 41,.int .u8 37,.int .u8 16,.int .u8 46,.int .u8 35,.int .u8 44,.int .u8 21,.int .u8 52,.int .u8 32,.int .u8 23,.int .u8 11,.int .u8 54,.int .u8 26,.int .u8 40,.int .u8 15,.int .u8 34,.int .u8 20,.int .u8 31,.int .u8 10,.int .u8 25,.int .u8 14,.int .u8 19,.int .u8 9,.int .u8 13,.int .u8 8,.int .u8 7,.int .u8 6] t frozen|o=>o).modify 2 fun| .cells _ t frozen=>.cells #[.int .u64 1,.int .u64 10,.int .u64 100,.int .u64 1000,.int .u64 10000,.int .u64 100000,.int .u64 1000000,.int .u64 10000000,.int .u64 100000000,.int .u64 1000000000,.int .u64 10000000000,.int .u64 100000000000,.int .u64 1000000000000,.int .u64 10000000000000,.int .u64 100000000000000,.int .u64 1000000000000000,.int .u64 10000000000000000,.int .u64 100000000000000000,.int .u64 1000000000000000000,.int .u64 10000000000000000000] t frozen|o=>o).modify 0 fun| .cells _ t frozen=>.cells #[.string ⟨#[]⟩,.string ⟨#[109,97,112]⟩,.string ⟨#[102,105,108,116,101,114]⟩,.string ⟨#[101,120,112,97,110,100]⟩,.string ⟨#[112,111,105,115,111,110]⟩] t frozen|o=>o).modify 1 fun| .cells _ t frozen=>.cells #[.string ⟨#[111,102,102,101,114]⟩,.int .i64 1,.int .i64 2,.string ⟨#[115,116,101,112]⟩,.int .i64 2,.int .i64 1,.string ⟨#[102,97,117,108,116]⟩,.int .i64 3,.int .i64 1,.string ⟨#[116,105,99,107]⟩,.int .i64 4,.int .i64 1,.string ⟨#[100,114,97,105,110]⟩,.int .i64 5,.int .i64 0,.string ⟨#[97,98,111,114,116]⟩,.int .i64 6,.int .i64 0,.string ⟨#[114,117,110]⟩,.int .i64 7,.int .i64 0,.string ⟨#[114,101,112,111,114,116]⟩,.int .i64 8,.int .i64 0,.string ⟨#[111,117,116]⟩,.int .i64 9,.int .i64 0,.string ⟨#[108,111,115,116]⟩,.int .i64 10,.int .i64 0,.string ⟨#[109,101,97,110]⟩,.int .i64 11,.int .i64 2] t frozen|o=>o).modify 5 fun| .cells _ t frozen=>.cells #[.iface 227 (.pointer (some ⟨low3+0,0,none⟩))] t frozen|o=>o).modify 4 fun| .cells _ t frozen=>.cells #[.iface 227 (.pointer (some ⟨low3+1,0,none⟩))] t frozen|o=>o).modify 6 fun| .cells _ t frozen=>.cells #[.iface 227 (.pointer (some ⟨low3+2,0,none⟩))] t frozen|o=>o).modify 7 fun| .cells _ t frozen=>.cells #[.iface 227 (.pointer (some ⟨low3+3,0,none⟩))] t frozen|o=>o).modify 8 fun| .cells _ t frozen=>.cells #[.iface 227 (.pointer (some ⟨low3+4,0,none⟩))] t frozen|o=>o).modify 9 fun| .cells _ t frozen=>.cells #[.iface 227 (.pointer (some ⟨low3+5,0,none⟩))] t frozen|o=>o).modify 10 fun| .cells _ t frozen=>.cells #[.iface 227 (.pointer (some ⟨low3+6,0,none⟩))] t frozen|o=>o).modify 11 fun| .cells _ t frozen=>.cells #[.iface 227 (.pointer (some ⟨low3+7,0,none⟩))] t frozen|o=>o).modify 12 fun| .cells _ t frozen=>.cells #[.iface 227 (.pointer (some ⟨low3+8,0,none⟩))] t frozen|o=>o) }
theorem Du(os:Os)(args:Array Value):laidMetH prog laidL3 ((Cj os).forCall (fun _ _=>0) ⟨#[],args,[]⟩).memory :=
 laidMet_of_run' 8 (by kernel_rfl) (by kernel_rfl)
end Go.Proofs.YtdacedbfnlkghaaGreatDoor