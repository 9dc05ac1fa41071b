/- RunPipe answers at every text as the specification does, and writes into no argument. No conditions. -/
import Derived.Test.YtdacedbfnlkghaaGreatDoorPLrp
import Derived.Test.YtdacedbfnlkghaaGreatDoorPTqt
import Derived.Test.YtdacedbfnlkghaaGreatDoorTie
import Derived.Test.YtdacedbfnlkghaaGreatDoorCards
import Derived.SevenTiedAt
import Derived.OpenVars
namespace Go.Proofs.YtdacedbfnlkghaaGreatDoor
set_option maxRecDepth 100000
open Go.Proofs.Tryz
open Go.ChangeShapes Go.WideShapes Go.ChangeAt Go.RowKit Go.Joins Go.Deep
theorem runPipe_text{H:Type}{enc:TypeId×Value→H}{W:World}{spare:Nat→Bool}{held:Bool}{rr:Reach}{b0:Nat}{v:Value}{d:DataW H}{p:List MemPlace}
  (hv:Value.okWide prog W rr b0 9 v) (h:DataW.Trod enc prog W 0 spare held 9 v d p):∃s:ByteArray,v=.string s∧s.size≤9223372036854775807:=by
 obtain⟨fuel,hf⟩:=h;obtain⟨s,rfl⟩:∃s,v=.string s:=okWide_string underlying9 hv;obtain⟨s',hc,_,hs⟩:=DataW.trod_string underlying9 hf;have e:s=s':=by simpa[Value.cells]using hc
 subst e;exact⟨s,rfl,by unfold maxLen at hs;omega⟩
theorem runPipe_lifted(os:Os)(started:os.Started)(H:Type)(enc:TypeId×Value→H) :
  ReturnsInHanded {} Tryz.checked os 4 .any (fun w args=>(Rows.fnExactRunPipeSpec.pre enc prog Tryz.f4 [] false w args∧laidMetH prog laidL3 w)∧sizedMet enc prog Tryz.f4 (OpenSpec.ofChange Rows.fnExactRunPipeSpec) false w args)
   (Rows.fnExactRunPipeSpec.post enc prog Tryz.f4 false true false false):=by
 refine returnsInHanded_of_change_and (C:=Tryz.checked) (X:=fun w _=>laidMetH prog laidL3 w) (fun _ _ _ hh h=>h.of_heap hh) Tryz.own started (by kernel_rfl) func4
  (ChangeSpec.witness_at (enc:=enc) (C:=Tryz.checked) (os:=os) (X:=fun w _=>laidMetH prog laidL3 w) false (Fy os) #[.string ⟨#[]⟩] 8 rfl (by kernel_rfl) (by kernel_rfl) (by kernel_rfl) (by kernel_rfl) (by kernel_rfl) (Db os _)) ?_
 intro W base args ds gs before hval0 hW _ _ hL _;have hval:∀(j:Nat) t v,Tryz.f4.params[j]? = some t→args[j]? = some v→Value.okWide prog W .any base t v:=hval0;have hW':=hW;obtain⟨p,q,hA0,hV0,rfl,hfz,hnd⟩:=hW;have hA:DataW.TrodAll enc prog W 0 (fun _=>true) true Tryz.f4.params.toList args.toList ds p:=hA0;have hV:DataW.TrodVars enc prog W (fun _=>true) ["loop.example/g00145/impl.stageWords", "loop.example/g00145/impl.errMany", "loop.example/g00145/impl.errCycle", "loop.example/g00145/impl.errName", "loop.example/g00145/impl.errTwice", "loop.example/g00145/impl.errStage", "loop.example/g00145/impl.errCap", "loop.example/g00145/impl.errEdge", "loop.example/g00145/impl.commands"] gs q:=hV0;rw[Tryz.params4]at hA hval;obtain⟨v0,d0,rfl,rfl,h0⟩:=trodAll_one hA;obtain⟨ea,hE⟩:=env_of_laid hL;obtain⟨g1,g2,g3,g4,g5,g6,g7,g8,g9,rfl⟩:∃g1 g2 g3 g4 g5 g6 g7 g8 g9,gs=[g1,g2,g3,g4,g5,g6,g7,g8,g9]:=vars_nine hV;have k0:=h0;have lt0:∀x∈p,x.block<W.1.size:=by obtain⟨m,hm⟩:=k0;exact DataW.trod_lt m _ _ _ hm
 obtain⟨s,rfl,hs⟩:=runPipe_text (hval 0 9 v0 rfl rfl) h0;clear hA0 hval0;refine(Da s ea W hE).mono fun e W' ⟨he,bel⟩=>?_
 subst he;exact⟨_,rfl,_,_,_,[],_,_,hW',trodAll_mk1 (shut_bool underlying4 _),trodAll_mk1 (Below.trod Tryz.laidOut (by kernel_rfl) (of_decide_eq_true (by kernel_rfl)) k0 bel lt0),Below.trodVars Tryz.laidOut bel (by kernel_rfl) hV,bel.frame _,fun h=>by cases h⟩
theorem runPipe_j0:(Rows.fnExactRunPipeRow.wf (OpenSpec.ofChange Rows.fnExactRunPipeSpec))=true:=by kernel_rfl
theorem runPipe_j1:(laidOutB Tryz.pinned.checked.prog)=true:=by kernel_rfl
theorem runPipe_j2:(mapsRowed Tryz.pinned.checked.prog)=true:=by kernel_rfl
theorem runPipe_j3:(Tryz.f4.params.all (Tryz.pinned.checked.prog.readableRec ·))=true:=by kernel_rfl
theorem runPipe_j4:(namedTie Tryz.pinned.checked.prog Rows.fnExactRunPipeRow.named Rows.fnExactRunPipeSpec.vars)=true:=by kernel_rfl
theorem runPipe_j5:((Rows.fnExactRunPipeRow.stops==[]))=true:=by kernel_rfl
theorem runPipe_j6:((Tryz.pinned.checked.prog.stops==[]))=true:=by kernel_rfl
theorem runPipe_j7:((Rows.fnExactRunPipeRow.knobs==[]))=true:=by kernel_rfl
theorem runPipe_j8:((Tryz.pinned.checked.prog.stopKnobs==[]))=true:=by kernel_rfl
theorem runPipe_j9:((Rows.fnExactRunPipeRow.inPlace==Tryz.pinned.checked.prog.inPlace 4))=true:=by kernel_rfl
theorem runPipe_j10:((Rows.fnExactRunPipeRow.unfollowed==Tryz.pinned.checked.prog.unfollowed 4))=true:=by kernel_rfl
theorem runPipe_j11:((Rows.fnExactRunPipeRow.recurses==Tryz.pinned.checked.prog.recurses 4))=true:=by kernel_rfl
theorem runPipe_j12:((Rows.fnExactRunPipeRow.named==Tryz.pinned.checked.prog.varsNamed 4))=true:=by kernel_rfl
theorem runPipe_j13:((Rows.fnExactRunPipeRow.maps==(Tryz.f4.params.toList++Rows.fnExactRunPipeSpec.plain.varTypes Tryz.pinned.checked.prog).any (Tryz.pinned.checked.prog.mapsRec ·)))=true:=by kernel_rfl
theorem runPipe_j14:((Rows.fnExactRunPipeRow.ifaces==(Tryz.f4.params.toList++Rows.fnExactRunPipeSpec.plain.varTypes Tryz.pinned.checked.prog).any (Tryz.pinned.checked.prog.ifacesRec ·)))=true:=by kernel_rfl
theorem runPipe_j15:((Rows.fnExactRunPipeRow.mapsOut==Tryz.pinned.checked.prog.mapsAmong Tryz.f4.resultTypes.toList))=true:=by kernel_rfl
theorem runPipe_j16:((Rows.fnExactRunPipeRow.loops==(Tryz.f4.params.toList++Rows.fnExactRunPipeSpec.plain.varTypes Tryz.pinned.checked.prog).any (Tryz.pinned.checked.prog.loopsFrom ·)))=true:=by kernel_rfl
theorem runPipe_j17:((Rows.fnExactRunPipeRow.wideKeys==(Tryz.f4.params.toList++Rows.fnExactRunPipeSpec.plain.varTypes Tryz.pinned.checked.prog++Tryz.f4.resultTypes.toList).any (Tryz.pinned.checked.prog.wideKeysFrom ·)))=true:=by kernel_rfl
theorem runPipe_j18:(Rows.fnExactRunPipeSpec.vars.all (Tryz.pinned.checked.prog.varReadable ·))=true:=by kernel_rfl
theorem runPipe_j19:(Tryz.f4.resultTypes.all (fun t=>Tryz.pinned.checked.prog.readableRec t && decide (t<Tryz.pinned.checked.prog.types.size)))=true:=by kernel_rfl
theorem runPipe_j20:((Rows.fnExactRunPipeRow.ifacesOut==Tryz.f4.resultTypes.toList.any (Tryz.pinned.checked.prog.ifacesRec ·)))=true:=by kernel_rfl
theorem runPipe_j21:((Rows.fnExactRunPipeRow.loopsOut==Tryz.f4.resultTypes.toList.any (Tryz.pinned.checked.prog.loopsFrom ·)))=true:=by kernel_rfl
theorem runPipe_j22:((Rows.fnExactRunPipeRow.plainKeys==Tryz.pinned.checked.prog.plainKeys))=true:=by kernel_rfl
theorem runPipe_j23:(Rows.fnExactRunPipeRow.shortTexts.isNone)=true:=by kernel_rfl
theorem runPipe_j24:(Tryz.pinned.checked.prog.stopsHeard)=true:=by kernel_rfl
theorem runPipe_j25:(Tryz.pinned.checked.prog.mayEnter)=true:=by kernel_rfl
theorem runPipe_j26:((Rows.fnExactRunPipeRow.lifted==Tryz.pinned.checked.prog.liftsFinal))=true:=by kernel_rfl
theorem runPipe_j27:((Tryz.pinned.checked.prog.make==some Rows.fnExactRunPipeRow.make))=true:=by kernel_rfl
theorem runPipe_j28:((Rows.fnExactRunPipeRow.kinds==(if Rows.fnExactRunPipeRow.domain.isEmpty then[]else Tryz.f4.params.toList.map fun t=>match Tryz.pinned.checked.prog.underlying t with|some (.int k)=>some k|_=>none)))=true:=by kernel_rfl
theorem runPipe_j29:((Rows.fnExactRunPipeRow.pinned==Rows.fnExactRunPipeRow.pinnedBy))=true:=by kernel_rfl
theorem runPipe_j30:((Rows.fnExactRunPipeRow.veiled==(Tryz.f4.params.toList++Rows.fnExactRunPipeSpec.plain.varTypes Tryz.pinned.checked.prog++Tryz.f4.resultTypes.toList).any (Tryz.pinned.checked.prog.veiledRec ·)))=true:=by kernel_rfl
theorem runPipe_j31:(Rows.fnExactRunPipeRow.veiledFits Tryz.pinned.checked.prog Tryz.f4.params.toList (Tryz.f4.params.toList++Rows.fnExactRunPipeSpec.plain.varTypes Tryz.pinned.checked.prog++Tryz.f4.resultTypes.toList))=true:=by kernel_rfl
theorem runPipe_facts:joinedFacts Tryz.pinned.checked.prog 4 Tryz.f4 Rows.fnExactRunPipeSpec Rows.fnExactRunPipeRow=true:=by
 unfold joinedFacts
 simp only[Bool.and_eq_true];exact⟨⟨⟨⟨⟨⟨⟨⟨⟨⟨⟨⟨⟨⟨⟨⟨⟨⟨⟨⟨⟨⟨⟨⟨⟨⟨⟨⟨⟨⟨⟨runPipe_j0,runPipe_j1⟩,runPipe_j2⟩,runPipe_j3⟩,runPipe_j4⟩,runPipe_j5⟩,runPipe_j6⟩,runPipe_j7⟩,runPipe_j8⟩,runPipe_j9⟩,runPipe_j10⟩,runPipe_j11⟩,runPipe_j12⟩,runPipe_j13⟩,runPipe_j14⟩,runPipe_j15⟩,runPipe_j16⟩,runPipe_j17⟩,runPipe_j18⟩,runPipe_j19⟩,runPipe_j20⟩,runPipe_j21⟩,runPipe_j22⟩,runPipe_j23⟩,runPipe_j24⟩,runPipe_j25⟩,runPipe_j26⟩,runPipe_j27⟩,runPipe_j28⟩,runPipe_j29⟩,runPipe_j30⟩,runPipe_j31⟩
theorem runPipe_row:Rows.FnExactRunPipeSaid :=
 OpenClaim.holds_of_wide 4 Tryz.f4 rfl rfl rfl rfl rfl rfl rfl ⟨rfl,rfl,rfl,rfl,rfl⟩ rfl rfl rfl rfl rfl (by kernel_rfl) func4 runPipe_facts
  (of_decide_eq_true (by kernel_rfl)) (by unfold Func.isWrapper;first|(rw[if_pos (by decide +kernel)];kernel_rfl)|(rw[if_neg (by decide +kernel)];exact⟨rfl,rfl⟩))
  (fun os started H enc _=>runPipe_lifted os started H enc)
theorem runPipe_holds:Rows.FnExactRunPipeCardSaid :=
 Claim7.holds_tied_plain_at .later [] [.data,.data,.data,.sentinel,.sentinel,.sentinel,.sentinel,.sentinel,.sentinel,.sentinel,.sentinel,.sentinel,.data,.data] true (true, "d41bea6f08727ac839f529f23cbff07f382a08ce17ad47a1435430d3ed92c4cb") true
  runPipe_row (fun _ h=>by cases h) (by kernel_rfl) (fun _ h=>by cases h) fnExactRunPipe_row_tie rfl ⟨rfl,rfl⟩ (by kernel_rfl) rfl
  (fun f fn hf hfn=>by
   obtain rfl:f=4:=Option.some.inj ((show prog.funcNamed "loop.example/g00145/laws.FnExactRunPipe" = some 4 by kernel_rfl).symm.trans hf)|>.symm
   obtain rfl:fn=Tryz.f4:=(Option.some.inj (func4.symm.trans hfn)).symm;exact⟨by kernel_rfl,fun j t ht=>by
    rw[Tryz.params4]at ht
    rcases j with _|j
    ·obtain rfl:t=9:=by simpa using ht.symm
     exact(show prog.wantsStandIn 9=false by kernel_rfl)
    ·simp at ht⟩)
  (by kernel_rfl)
#print axioms runPipe_holds
end Go.Proofs.YtdacedbfnlkghaaGreatDoor