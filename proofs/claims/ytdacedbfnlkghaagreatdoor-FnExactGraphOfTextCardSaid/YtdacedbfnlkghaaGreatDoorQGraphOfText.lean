/- GraphOfText answers at every text as the specification does, and its answer owns its memory. No conditions. -/
import Derived.Test.YtdacedbfnlkghaaGreatDoorQMnLgt
import Derived.Test.YtdacedbfnlkghaaGreatDoorQTqt
import Derived.Test.YtdacedbfnlkghaaGreatDoorTie
import Derived.Test.YtdacedbfnlkghaaGreatDoorCards
import Derived.SevenTiedAt
import Derived.OpenVars
namespace Go.Proofs.YtdacedbfnlkghaaGreatDoor
set_option maxRecDepth 100000
open Go.Proofs.Tryz
open Go.ChangeShapes Go.WideShapes Go.ChangeAt Go.RowKit Go.Joins Go.Deep
theorem Hx{H:Type}{enc:TypeId×Value→H}{W:World}{spare:Nat→Bool}{held:Bool}{rr:Reach}{b0:Nat}{v:Value}{d:DataW H}{p:List MemPlace}
  (hv:Value.okWide prog W rr b0 9 v) (h:DataW.Trod enc prog W 0 spare held 9 v d p):∃s:ByteArray,v=.string s∧s.size≤9223372036854775807:=by
 obtain⟨fuel,hf⟩:=h;obtain⟨s,rfl⟩:∃s,v=.string s:=okWide_string underlying9 hv;obtain⟨s',hc,_,hs⟩:=DataW.trod_string underlying9 hf;have e:s=s':=by simpa[Value.cells]using hc
 subst e;exact⟨s,rfl,by unfold maxLen at hs;omega⟩
theorem graphOfText_lifted(os:Os)(started:os.Started)(H:Type)(enc:TypeId×Value→H) :
  ReturnsInHanded {} Tryz.checked os 5 .any (fun w args=>(Rows.fnExactGraphOfTextSpec.pre enc prog Tryz.f5 [] false w args∧laidMetH prog laidL3 w)∧sizedMet enc prog Tryz.f5 (OpenSpec.ofChange Rows.fnExactGraphOfTextSpec) false w args)
   (Rows.fnExactGraphOfTextSpec.post enc prog Tryz.f5 false true false false):=by
 refine returnsInHanded_of_change_and (C:=Tryz.checked) (X:=fun w _=>laidMetH prog laidL3 w) (fun _ _ _ hh h=>h.of_heap hh) Tryz.own started (by kernel_rfl) func5
  (ChangeSpec.witness_at (enc:=enc) (C:=Tryz.checked) (os:=os) (X:=fun w _=>laidMetH prog laidL3 w) false (Co os) #[.string ⟨#[]⟩] 8 rfl (by kernel_rfl) (by kernel_rfl) (by kernel_rfl) (by kernel_rfl) (by kernel_rfl) (Fw os _)) ?_
 intro W base args ds gs before hval0 hW _ _ hL _;have hval:∀(j:Nat) t v,Tryz.f5.params[j]? = some t→args[j]? = some v→Value.okWide prog W .any base t v:=hval0;have hW':=hW;obtain⟨p,q,hA0,hV0,rfl,hfz,hnd⟩:=hW;have hA:DataW.TrodAll enc prog W 0 (fun _=>true) true Tryz.f5.params.toList args.toList ds p:=hA0;have hV:DataW.TrodVars enc prog W (fun _=>true) ["loop.example/g00145/impl.stageWords", "loop.example/g00145/impl.errMany", "loop.example/g00145/impl.errCycle", "loop.example/g00145/impl.errName", "loop.example/g00145/impl.errTwice", "loop.example/g00145/impl.errStage", "loop.example/g00145/impl.errCap", "loop.example/g00145/impl.errEdge", "loop.example/g00145/impl.commands"] gs q:=hV0;rw[Tryz.params5]at hA hval;obtain⟨v0,d0,rfl,rfl,h0⟩:=trodAll_one hA;obtain⟨ea,hE⟩:=env_of_laid hL;obtain⟨g1,g2,g3,g4,g5,g6,g7,g8,g9,rfl⟩:∃g1 g2 g3 g4 g5 g6 g7 g8 g9,gs=[g1,g2,g3,g4,g5,g6,g7,g8,g9]:=vars_nine hV;have k0:=h0;have lt0:∀x∈p,x.block<W.1.size:=by obtain⟨m,hm⟩:=k0;exact DataW.trod_lt m _ _ _ hm
 obtain⟨s,rfl,hs⟩:=Hx (hval 0 9 v0 rfl rfl) h0;clear hA0 hval0;refine(Fv s ea W hE).mono fun e W' ⟨he,bel⟩=>?_
 subst he;exact⟨_,rfl,_,_,_,[],_,_,hW',trodAll_mk1 (shut_bool underlying4 _),trodAll_mk1 (Below.trod Tryz.laidOut (by kernel_rfl) (of_decide_eq_true (by kernel_rfl)) k0 bel lt0),Below.trodVars Tryz.laidOut bel (by kernel_rfl) hV,bel.frame _,fun h=>by cases h⟩
theorem Fp:(Rows.fnExactGraphOfTextRow.wf (OpenSpec.ofChange Rows.fnExactGraphOfTextSpec))=true:=by kernel_rfl
theorem Fo:(laidOutB Tryz.pinned.checked.prog)=true:=by kernel_rfl
theorem Fm:(mapsRowed Tryz.pinned.checked.prog)=true:=by kernel_rfl
theorem Fi:(Tryz.f5.params.all (Tryz.pinned.checked.prog.readableRec ·))=true:=by kernel_rfl
theorem Fh:(namedTie Tryz.pinned.checked.prog Rows.fnExactGraphOfTextRow.named Rows.fnExactGraphOfTextSpec.vars)=true:=by kernel_rfl
theorem Fg:((Rows.fnExactGraphOfTextRow.stops==[]))=true:=by kernel_rfl
theorem Ff:((Tryz.pinned.checked.prog.stops==[]))=true:=by kernel_rfl
theorem Fe:((Rows.fnExactGraphOfTextRow.knobs==[]))=true:=by kernel_rfl
theorem Fd:((Tryz.pinned.checked.prog.stopKnobs==[]))=true:=by kernel_rfl
theorem Fc:((Rows.fnExactGraphOfTextRow.inPlace==Tryz.pinned.checked.prog.inPlace 5))=true:=by kernel_rfl
theorem Bn:((Rows.fnExactGraphOfTextRow.unfollowed==Tryz.pinned.checked.prog.unfollowed 5))=true:=by kernel_rfl
theorem Bm:((Rows.fnExactGraphOfTextRow.recurses==Tryz.pinned.checked.prog.recurses 5))=true:=by kernel_rfl
theorem Bl:((Rows.fnExactGraphOfTextRow.named==Tryz.pinned.checked.prog.varsNamed 5))=true:=by kernel_rfl
theorem Bi:((Rows.fnExactGraphOfTextRow.maps==(Tryz.f5.params.toList++Rows.fnExactGraphOfTextSpec.plain.varTypes Tryz.pinned.checked.prog).any (Tryz.pinned.checked.prog.mapsRec ·)))=true:=by kernel_rfl
theorem Bh:((Rows.fnExactGraphOfTextRow.ifaces==(Tryz.f5.params.toList++Rows.fnExactGraphOfTextSpec.plain.varTypes Tryz.pinned.checked.prog).any (Tryz.pinned.checked.prog.ifacesRec ·)))=true:=by kernel_rfl
theorem Bg:((Rows.fnExactGraphOfTextRow.mapsOut==Tryz.pinned.checked.prog.mapsAmong Tryz.f5.resultTypes.toList))=true:=by kernel_rfl
theorem Bf:((Rows.fnExactGraphOfTextRow.loops==(Tryz.f5.params.toList++Rows.fnExactGraphOfTextSpec.plain.varTypes Tryz.pinned.checked.prog).any (Tryz.pinned.checked.prog.loopsFrom ·)))=true:=by kernel_rfl
theorem Be:((Rows.fnExactGraphOfTextRow.wideKeys==(Tryz.f5.params.toList++Rows.fnExactGraphOfTextSpec.plain.varTypes Tryz.pinned.checked.prog++Tryz.f5.resultTypes.toList).any (Tryz.pinned.checked.prog.wideKeysFrom ·)))=true:=by kernel_rfl
theorem Bd:(Rows.fnExactGraphOfTextSpec.vars.all (Tryz.pinned.checked.prog.varReadable ·))=true:=by kernel_rfl
theorem Bc:(Tryz.f5.resultTypes.all (fun t=>Tryz.pinned.checked.prog.readableRec t && decide (t<Tryz.pinned.checked.prog.types.size)))=true:=by kernel_rfl
theorem Bb:((Rows.fnExactGraphOfTextRow.ifacesOut==Tryz.f5.resultTypes.toList.any (Tryz.pinned.checked.prog.ifacesRec ·)))=true:=by kernel_rfl
theorem Ba:((Rows.fnExactGraphOfTextRow.loopsOut==Tryz.f5.resultTypes.toList.any (Tryz.pinned.checked.prog.loopsFrom ·)))=true:=by kernel_rfl
theorem Bw:((Rows.fnExactGraphOfTextRow.plainKeys==Tryz.pinned.checked.prog.plainKeys))=true:=by kernel_rfl
theorem Bv:(Rows.fnExactGraphOfTextRow.shortTexts.isNone)=true:=by kernel_rfl
theorem Bk:(Tryz.pinned.checked.prog.stopsHeard)=true:=by kernel_rfl
theorem Bj:(Tryz.pinned.checked.prog.mayEnter)=true:=by kernel_rfl
theorem Bq:((Rows.fnExactGraphOfTextRow.lifted==Tryz.pinned.checked.prog.liftsFinal))=true:=by kernel_rfl
theorem Bz:((Tryz.pinned.checked.prog.make==some Rows.fnExactGraphOfTextRow.make))=true:=by kernel_rfl
theorem Mu:((Rows.fnExactGraphOfTextRow.kinds==(if Rows.fnExactGraphOfTextRow.domain.isEmpty then[]else Tryz.f5.params.toList.map fun t=>match Tryz.pinned.checked.prog.underlying t with|some (.int k)=>some k|_=>none)))=true:=by kernel_rfl
theorem Mt:((Rows.fnExactGraphOfTextRow.pinned==Rows.fnExactGraphOfTextRow.pinnedBy))=true:=by kernel_rfl
theorem Ms:((Rows.fnExactGraphOfTextRow.veiled==(Tryz.f5.params.toList++Rows.fnExactGraphOfTextSpec.plain.varTypes Tryz.pinned.checked.prog++Tryz.f5.resultTypes.toList).any (Tryz.pinned.checked.prog.veiledRec ·)))=true:=by kernel_rfl
theorem Mr:(Rows.fnExactGraphOfTextRow.veiledFits Tryz.pinned.checked.prog Tryz.f5.params.toList (Tryz.f5.params.toList++Rows.fnExactGraphOfTextSpec.plain.varTypes Tryz.pinned.checked.prog++Tryz.f5.resultTypes.toList))=true:=by kernel_rfl
theorem Tc:joinedFacts Tryz.pinned.checked.prog 5 Tryz.f5 Rows.fnExactGraphOfTextSpec Rows.fnExactGraphOfTextRow=true:=by
 unfold joinedFacts
 simp only[Bool.and_eq_true];exact⟨⟨⟨⟨⟨⟨⟨⟨⟨⟨⟨⟨⟨⟨⟨⟨⟨⟨⟨⟨⟨⟨⟨⟨⟨⟨⟨⟨⟨⟨⟨Fp,Fo⟩,Fm⟩,Fi⟩,Fh⟩,Fg⟩,Ff⟩,Fe⟩,Fd⟩,Fc⟩,Bn⟩,Bm⟩,Bl⟩,Bi⟩,Bh⟩,Bg⟩,Bf⟩,Be⟩,Bd⟩,Bc⟩,Bb⟩,Ba⟩,Bw⟩,Bv⟩,Bk⟩,Bj⟩,Bq⟩,Bz⟩,Mu⟩,Mt⟩,Ms⟩,Mr⟩
theorem graphOfText_row:Rows.FnExactGraphOfTextSaid :=
 OpenClaim.holds_of_wide 5 Tryz.f5 rfl rfl rfl rfl rfl rfl rfl ⟨rfl,rfl,rfl,rfl,rfl⟩ rfl rfl rfl rfl rfl (by kernel_rfl) func5 Tc
  (of_decide_eq_true (by kernel_rfl)) (by unfold Func.isWrapper;first|(rw[if_pos (by decide +kernel)];kernel_rfl)|(rw[if_neg (by decide +kernel)];exact⟨rfl,rfl⟩))
  (fun os started H enc _=>graphOfText_lifted os started H enc)
theorem graphOfText_holds:Rows.FnExactGraphOfTextCardSaid :=
 Claim7.holds_tied_plain_at .later [] [.data,.data,.data,.sentinel,.sentinel,.sentinel,.sentinel,.sentinel,.sentinel,.sentinel,.sentinel,.sentinel,.data,.data] true (true, "d41bea6f08727ac839f529f23cbff07f382a08ce17ad47a1435430d3ed92c4cb") true
  graphOfText_row (fun _ h=>by cases h) (by kernel_rfl) (fun _ h=>by cases h) fnExactGraphOfText_row_tie rfl ⟨rfl,rfl⟩ (by kernel_rfl) rfl
  (fun f fn hf hfn=>by
   obtain rfl:f=5:=Option.some.inj ((show prog.funcNamed "loop.example/g00145/laws.FnExactGraphOfText" = some 5 by kernel_rfl).symm.trans hf)|>.symm
   obtain rfl:fn=Tryz.f5:=(Option.some.inj (func5.symm.trans hfn)).symm;exact⟨by kernel_rfl,fun j t ht=>by
    rw[Tryz.params5]at ht
    rcases j with _|j
    ·obtain rfl:t=9:=by simpa using ht.symm
     exact(show prog.wantsStandIn 9=false by kernel_rfl)
    ·simp at ht⟩)
  (by kernel_rfl)
#print axioms graphOfText_holds
end Go.Proofs.YtdacedbfnlkghaaGreatDoor