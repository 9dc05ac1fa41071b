/- LastPipe answers at every text as the specification does, and its answer owns its memory. No conditions. -/
import Derived.Test.YtdacedbfnlkghaaGreatDoorULlp
import Derived.Test.YtdacedbfnlkghaaGreatDoorUTqt
import Derived.Test.YtdacedbfnlkghaaGreatDoorTie
import Derived.Test.YtdacedbfnlkghaaGreatDoorCards
import Derived.SevenTiedAt
import Derived.OpenVars
namespace Go.Proofs.YtdacedbfnlkghaaGreatDoor
set_option maxRecDepth 100000
open Go.Proofs.Tryz
open Go.ChangeShapes Go.WideShapes Go.ChangeAt Go.RowKit Go.Joins Go.Deep
theorem lastPipe_text{H:Type}{enc:TypeId×Value→H}{W:World}{spare:Nat→Bool}{held:Bool}{rr:Reach}{b0:Nat}{v:Value}{d:DataW H}{p:List MemPlace}
  (hv:Value.okWide prog W rr b0 9 v) (h:DataW.Trod enc prog W 0 spare held 9 v d p):∃s:ByteArray,v=.string s∧s.size≤9223372036854775807:=by
 obtain⟨fuel,hf⟩:=h;obtain⟨s,rfl⟩:∃s,v=.string s:=okWide_string underlying9 hv;obtain⟨s',hc,_,hs⟩:=DataW.trod_string underlying9 hf;have e:s=s':=by simpa[Value.cells]using hc
 subst e;exact⟨s,rfl,by unfold maxLen at hs;omega⟩
theorem lastPipe_lifted(os:Os)(started:os.Started)(H:Type)(enc:TypeId×Value→H) :
  ReturnsInHanded {} Tryz.checked os 6 .any (fun w args=>(Rows.fnExactLastPipeSpec.pre enc prog Tryz.f6 [] false w args∧laidMetH prog laidL3 w)∧sizedMet enc prog Tryz.f6 (OpenSpec.ofChange Rows.fnExactLastPipeSpec) false w args)
   (Rows.fnExactLastPipeSpec.post enc prog Tryz.f6 false true false false):=by
 refine returnsInHanded_of_change_and (C:=Tryz.checked) (X:=fun w _=>laidMetH prog laidL3 w) (fun _ _ _ hh h=>h.of_heap hh) Tryz.own started (by kernel_rfl) func6
  (ChangeSpec.witness_at (enc:=enc) (C:=Tryz.checked) (os:=os) (X:=fun w _=>laidMetH prog laidL3 w) false (Cj os) #[.string ⟨#[]⟩] 8 rfl (by kernel_rfl) (by kernel_rfl) (by kernel_rfl) (by kernel_rfl) (by kernel_rfl) (Du os _)) ?_
 intro W base args ds gs before hval0 hW _ _ hL _;have hval:∀(j:Nat) t v,Tryz.f6.params[j]? = some t→args[j]? = some v→Value.okWide prog W .any base t v:=hval0;have hW':=hW;obtain⟨p,q,hA0,hV0,rfl,hfz,hnd⟩:=hW;have hA:DataW.TrodAll enc prog W 0 (fun _=>true) true Tryz.f6.params.toList args.toList ds p:=hA0;have hV:DataW.TrodVars enc prog W (fun _=>true) ["loop.example/g00145/impl.stageWords", "loop.example/g00145/impl.errMany", "loop.example/g00145/impl.errCycle", "loop.example/g00145/impl.errName", "loop.example/g00145/impl.errTwice", "loop.example/g00145/impl.errStage", "loop.example/g00145/impl.errCap", "loop.example/g00145/impl.errEdge", "loop.example/g00145/impl.commands"] gs q:=hV0;rw[Tryz.params6]at hA hval;obtain⟨v0,d0,rfl,rfl,h0⟩:=trodAll_one hA;obtain⟨ea,hE⟩:=env_of_laid hL;obtain⟨g1,g2,g3,g4,g5,g6,g7,g8,g9,rfl⟩:∃g1 g2 g3 g4 g5 g6 g7 g8 g9,gs=[g1,g2,g3,g4,g5,g6,g7,g8,g9]:=vars_nine hV;have k0:=h0;have lt0:∀x∈p,x.block<W.1.size:=by obtain⟨m,hm⟩:=k0;exact DataW.trod_lt m _ _ _ hm
 obtain⟨s,rfl,hs⟩:=lastPipe_text (hval 0 9 v0 rfl rfl) h0;clear hA0 hval0;refine(Mm s ea W hE).mono fun e W' ⟨he,bel⟩=>?_
 subst he;exact⟨_,rfl,_,_,_,[],_,_,hW',trodAll_mk1 (shut_bool underlying4 _),trodAll_mk1 (Below.trod Tryz.laidOut (by kernel_rfl) (of_decide_eq_true (by kernel_rfl)) k0 bel lt0),Below.trodVars Tryz.laidOut bel (by kernel_rfl) hV,bel.frame _,fun h=>by cases h⟩
theorem lastPipe_j0:(Rows.fnExactLastPipeRow.wf (OpenSpec.ofChange Rows.fnExactLastPipeSpec))=true:=by kernel_rfl
theorem lastPipe_j1:(laidOutB Tryz.pinned.checked.prog)=true:=by kernel_rfl
theorem lastPipe_j2:(mapsRowed Tryz.pinned.checked.prog)=true:=by kernel_rfl
theorem lastPipe_j3:(Tryz.f6.params.all (Tryz.pinned.checked.prog.readableRec ·))=true:=by kernel_rfl
theorem lastPipe_j4:(namedTie Tryz.pinned.checked.prog Rows.fnExactLastPipeRow.named Rows.fnExactLastPipeSpec.vars)=true:=by kernel_rfl
theorem lastPipe_j5:((Rows.fnExactLastPipeRow.stops==[]))=true:=by kernel_rfl
theorem lastPipe_j6:((Tryz.pinned.checked.prog.stops==[]))=true:=by kernel_rfl
theorem lastPipe_j7:((Rows.fnExactLastPipeRow.knobs==[]))=true:=by kernel_rfl
theorem lastPipe_j8:((Tryz.pinned.checked.prog.stopKnobs==[]))=true:=by kernel_rfl
theorem lastPipe_j9:((Rows.fnExactLastPipeRow.inPlace==Tryz.pinned.checked.prog.inPlace 6))=true:=by kernel_rfl
theorem lastPipe_j10:((Rows.fnExactLastPipeRow.unfollowed==Tryz.pinned.checked.prog.unfollowed 6))=true:=by kernel_rfl
theorem lastPipe_j11:((Rows.fnExactLastPipeRow.recurses==Tryz.pinned.checked.prog.recurses 6))=true:=by kernel_rfl
theorem lastPipe_j12:((Rows.fnExactLastPipeRow.named==Tryz.pinned.checked.prog.varsNamed 6))=true:=by kernel_rfl
theorem lastPipe_j13:((Rows.fnExactLastPipeRow.maps==(Tryz.f6.params.toList++Rows.fnExactLastPipeSpec.plain.varTypes Tryz.pinned.checked.prog).any (Tryz.pinned.checked.prog.mapsRec ·)))=true:=by kernel_rfl
theorem lastPipe_j14:((Rows.fnExactLastPipeRow.ifaces==(Tryz.f6.params.toList++Rows.fnExactLastPipeSpec.plain.varTypes Tryz.pinned.checked.prog).any (Tryz.pinned.checked.prog.ifacesRec ·)))=true:=by kernel_rfl
theorem lastPipe_j15:((Rows.fnExactLastPipeRow.mapsOut==Tryz.pinned.checked.prog.mapsAmong Tryz.f6.resultTypes.toList))=true:=by kernel_rfl
theorem lastPipe_j16:((Rows.fnExactLastPipeRow.loops==(Tryz.f6.params.toList++Rows.fnExactLastPipeSpec.plain.varTypes Tryz.pinned.checked.prog).any (Tryz.pinned.checked.prog.loopsFrom ·)))=true:=by kernel_rfl
theorem lastPipe_j17:((Rows.fnExactLastPipeRow.wideKeys==(Tryz.f6.params.toList++Rows.fnExactLastPipeSpec.plain.varTypes Tryz.pinned.checked.prog++Tryz.f6.resultTypes.toList).any (Tryz.pinned.checked.prog.wideKeysFrom ·)))=true:=by kernel_rfl
theorem lastPipe_j18:(Rows.fnExactLastPipeSpec.vars.all (Tryz.pinned.checked.prog.varReadable ·))=true:=by kernel_rfl
theorem lastPipe_j19:(Tryz.f6.resultTypes.all (fun t=>Tryz.pinned.checked.prog.readableRec t && decide (t<Tryz.pinned.checked.prog.types.size)))=true:=by kernel_rfl
theorem lastPipe_j20:((Rows.fnExactLastPipeRow.ifacesOut==Tryz.f6.resultTypes.toList.any (Tryz.pinned.checked.prog.ifacesRec ·)))=true:=by kernel_rfl
theorem lastPipe_j21:((Rows.fnExactLastPipeRow.loopsOut==Tryz.f6.resultTypes.toList.any (Tryz.pinned.checked.prog.loopsFrom ·)))=true:=by kernel_rfl
theorem lastPipe_j22:((Rows.fnExactLastPipeRow.plainKeys==Tryz.pinned.checked.prog.plainKeys))=true:=by kernel_rfl
theorem lastPipe_j23:(Rows.fnExactLastPipeRow.shortTexts.isNone)=true:=by kernel_rfl
theorem lastPipe_j24:(Tryz.pinned.checked.prog.stopsHeard)=true:=by kernel_rfl
theorem lastPipe_j25:(Tryz.pinned.checked.prog.mayEnter)=true:=by kernel_rfl
theorem lastPipe_j26:((Rows.fnExactLastPipeRow.lifted==Tryz.pinned.checked.prog.liftsFinal))=true:=by kernel_rfl
theorem lastPipe_j27:((Tryz.pinned.checked.prog.make==some Rows.fnExactLastPipeRow.make))=true:=by kernel_rfl
theorem lastPipe_j28:((Rows.fnExactLastPipeRow.kinds==(if Rows.fnExactLastPipeRow.domain.isEmpty then[]else Tryz.f6.params.toList.map fun t=>match Tryz.pinned.checked.prog.underlying t with|some (.int k)=>some k|_=>none)))=true:=by kernel_rfl
theorem lastPipe_j29:((Rows.fnExactLastPipeRow.pinned==Rows.fnExactLastPipeRow.pinnedBy))=true:=by kernel_rfl
theorem lastPipe_j30:((Rows.fnExactLastPipeRow.veiled==(Tryz.f6.params.toList++Rows.fnExactLastPipeSpec.plain.varTypes Tryz.pinned.checked.prog++Tryz.f6.resultTypes.toList).any (Tryz.pinned.checked.prog.veiledRec ·)))=true:=by kernel_rfl
theorem lastPipe_j31:(Rows.fnExactLastPipeRow.veiledFits Tryz.pinned.checked.prog Tryz.f6.params.toList (Tryz.f6.params.toList++Rows.fnExactLastPipeSpec.plain.varTypes Tryz.pinned.checked.prog++Tryz.f6.resultTypes.toList))=true:=by kernel_rfl
theorem Dt:joinedFacts Tryz.pinned.checked.prog 6 Tryz.f6 Rows.fnExactLastPipeSpec Rows.fnExactLastPipeRow=true:=by
 unfold joinedFacts
 simp only[Bool.and_eq_true];exact⟨⟨⟨⟨⟨⟨⟨⟨⟨⟨⟨⟨⟨⟨⟨⟨⟨⟨⟨⟨⟨⟨⟨⟨⟨⟨⟨⟨⟨⟨⟨lastPipe_j0,lastPipe_j1⟩,lastPipe_j2⟩,lastPipe_j3⟩,lastPipe_j4⟩,lastPipe_j5⟩,lastPipe_j6⟩,lastPipe_j7⟩,lastPipe_j8⟩,lastPipe_j9⟩,lastPipe_j10⟩,lastPipe_j11⟩,lastPipe_j12⟩,lastPipe_j13⟩,lastPipe_j14⟩,lastPipe_j15⟩,lastPipe_j16⟩,lastPipe_j17⟩,lastPipe_j18⟩,lastPipe_j19⟩,lastPipe_j20⟩,lastPipe_j21⟩,lastPipe_j22⟩,lastPipe_j23⟩,lastPipe_j24⟩,lastPipe_j25⟩,lastPipe_j26⟩,lastPipe_j27⟩,lastPipe_j28⟩,lastPipe_j29⟩,lastPipe_j30⟩,lastPipe_j31⟩
theorem lastPipe_row:Rows.FnExactLastPipeSaid :=
 OpenClaim.holds_of_wide 6 Tryz.f6 rfl rfl rfl rfl rfl rfl rfl ⟨rfl,rfl,rfl,rfl,rfl⟩ rfl rfl rfl rfl rfl (by kernel_rfl) func6 Dt
  (of_decide_eq_true (by kernel_rfl)) (by unfold Func.isWrapper;first|(rw[if_pos (by decide +kernel)];kernel_rfl)|(rw[if_neg (by decide +kernel)];exact⟨rfl,rfl⟩))
  (fun os started H enc _=>lastPipe_lifted os started H enc)
theorem lastPipe_holds:Rows.FnExactLastPipeCardSaid :=
 Claim7.holds_tied_plain_at .later [] [.data,.data,.data,.sentinel,.sentinel,.sentinel,.sentinel,.sentinel,.sentinel,.sentinel,.sentinel,.sentinel,.data,.data] true (true, "d41bea6f08727ac839f529f23cbff07f382a08ce17ad47a1435430d3ed92c4cb") true
  lastPipe_row (fun _ h=>by cases h) (by kernel_rfl) (fun _ h=>by cases h) fnExactLastPipe_row_tie rfl ⟨rfl,rfl⟩ (by kernel_rfl) rfl
  (fun f fn hf hfn=>by
   obtain rfl:f=6:=Option.some.inj ((show prog.funcNamed "loop.example/g00145/laws.FnExactLastPipe" = some 6 by kernel_rfl).symm.trans hf)|>.symm
   obtain rfl:fn=Tryz.f6:=(Option.some.inj (func6.symm.trans hfn)).symm;exact⟨by kernel_rfl,fun j t ht=>by
    rw[Tryz.params6]at ht
    rcases j with _|j
    ·obtain rfl:t=9:=by simpa using ht.symm
     exact(show prog.wantsStandIn 9=false by kernel_rfl)
    ·simp at ht⟩)
  (by kernel_rfl)
#print axioms lastPipe_holds
end Go.Proofs.YtdacedbfnlkghaaGreatDoor