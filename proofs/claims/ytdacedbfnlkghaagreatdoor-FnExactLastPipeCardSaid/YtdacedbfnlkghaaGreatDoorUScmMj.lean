/- The table of commands, and a command read: the program. Rows of emits: the small functions over them. Rows of numbers told behind a word: the program. What a node lets through, and what a value means: the specification's. What a value means, as the specification says it: l11Mean. No conditions but those written. -/
import Derived.Test.YtdacedbfnlkghaaGreatDoorUCvbSlo
import Derived.Deep.DeepCutAuto
namespace Go.Proofs.YtdacedbfnlkghaaGreatDoor
set_option maxHeartbeats 8000000
set_option maxRecDepth 100000
open Go.RowKit Go.Proofs.Tryz
def Vj(k:Nat):ByteArray:=match k with
 |0=>⟨#[111,102,102,101,114]⟩
 |1=>⟨#[115,116,101,112]⟩
 |2=>⟨#[102,97,117,108,116]⟩
 |3=>⟨#[116,105,99,107]⟩
 |4=>⟨#[100,114,97,105,110]⟩
 |5=>⟨#[97,98,111,114,116]⟩
 |6=>⟨#[114,117,110]⟩
 |7=>⟨#[114,101,112,111,114,116]⟩
 |8=>⟨#[111,117,116]⟩
 |9=>⟨#[108,111,115,116]⟩
 |10=>⟨#[109,101,97,110]⟩
 |_=>⟨#[]⟩
def Uh(k:Nat):Nat:=match k with
 |0=>2
 |1=>1
 |2=>1
 |3=>1
 |4=>0
 |5=>0
 |6=>0
 |7=>0
 |8=>0
 |9=>0
 |10=>2
 |_=>0
theorem cmdN_le(k:Nat):Uh k≤2:=by unfold Uh;split <;> decide
structure Cmds(w:World):Prop where
 lt:1<w.1.size
 cell:∀j:Nat,j<11→w.cell? ⟨1,j*3,none⟩=some (.string (Vj j))∧w.cell? ⟨1,j*3+1,none⟩=some (.int .i64 ((j:Int)+1))∧w.cell? ⟨1,j*3+2,none⟩=some (.int .i64 (Uh j:Int))
theorem Cmds.below{n:Nat}{w w':World}(h:Cmds w)(hb:Below n w w')(hn:1<n):Cmds w' :=
 ⟨Nat.lt_of_lt_of_le h.lt hb.size,fun j hj=>⟨(hb.cell (p:=⟨1,j*3,none⟩) hn).trans (h.cell j hj).1,(hb.cell (p:=⟨1,j*3+1,none⟩) hn).trans (h.cell j hj).2.1,(hb.cell (p:=⟨1,j*3+2,none⟩) hn).trans (h.cell j hj).2.2⟩⟩
theorem Cmds.later{w w':World}(h:Cmds w)(hb:Below w.1.size w w'):Cmds w':=h.below hb h.lt
def cmdO(x:ByteArray)(n:Nat):Option Nat:=(List.range 11).find? fun k=>decide (x=Vj k∧n=Uh k)
theorem cmdO_hit{x:ByteArray}{n k:Nat}(hk:k<11)(h:x=Vj k∧n=Uh k)(hn:∀j,j<k→¬(x=Vj j∧n=Uh j)):cmdO x n=some k:=by
 rw[cmdO,List.find?_eq_some_iff_getElem];refine⟨by simpa using h,k,by simpa using hk,by simp,fun j hj=>?_⟩;have:=hn j hj;rw[List.getElem_range,decide_eq_false this];rfl
theorem Bu{x:ByteArray}{n:Nat}(h:∀j,j<11→¬(x=Vj j∧n=Uh j)):cmdO x n=none:=by
 rw[cmdO,List.find?_eq_none];intro j hj;have:=h j (List.mem_range.1 hj)
 simpa using this
def Df(ws:List ByteArray):Int×List Int×Bool:=match Jm (ws.drop 1)with
 |none=>(0,[],false)
 |some l=>match cmdO (el ws 0) l.length with
  |none=>(0,[],false)
  |some k=>((k:Int)+1,l,true)
def cmdF(j:Nat):Value:=if j % 3=0 then .string (Vj (j / 3))else if j % 3=1 then .int .i64 (((j / 3:Nat):Int)+1)else .int .i64 (Uh (j / 3):Int)
def cmdTab:Value:=.agg ((List.range 33).map cmdF).toArray
theorem Cmds.all{w:World}(h:Cmds w):∀j:Nat,j<33→w.cell? (Addr.add ⟨1,0,none⟩ j)=some (cmdF j):=by
 intro j hj;have hc:=h.cell (j / 3) (by omega);have e0:Addr.add ⟨1,0,none⟩ j=⟨1,j,none⟩:=by simp[Addr.add];intro h;omega
 rw[e0]
 rcases(show j % 3=0∨j % 3=1∨j % 3=2 from by omega)with h3|h3|h3
 ·have:j / 3*3=j:=by omega
  rw[this]at hc;rw[cmdF,if_pos h3];exact hc.1
 ·have:j / 3*3+1=j:=by omega
  rw[this]at hc;rw[cmdF,if_neg (by omega),if_pos h3];exact hc.2.1
 ·have:j / 3*3+2=j:=by omega
  rw[this]at hc;rw[cmdF,if_neg (by omega),if_neg (by omega)];exact hc.2.2
theorem Ui{P:Program}(w:World){ops:Array Oper}{rest:List Oper}{o:Oper}{a:Act}{Q:Exit→Act→World→Prop}
  (hg:o.guard=none) (x:Operand) (t:TypeId) (hop:o.op=Op.load t x) (ad:Addr) (hx:a.eval x=.pointer (some ad)) (n:Nat) (f:Nat→Value)
  (h1:∀w,Sem.run P (isAgg t) w=.ok true w) (h2:∀w,Sem.run P (sizeOf t) w=.ok n w) (hc:∀j,j<n→w.cell? (ad.add j)=some (f j)) (v:Value) (hv:(.agg ((List.range n).map f).toArray)=v)
  (hK:wpList P ops Q rest (a.put o.dst v) w):wpList P ops Q (o::rest) a w:=by
 refine wpList_plain hg fun K hK'=>?_
 have hr:Sem.run P (Instr.loadAt t (.pointer (some ad))) w=.ok v w:=by
  rw[←hv]
  simp[Instr.loadAt,Instr.sureAddr,loadVar,h1,h2,Sem.run_bind,run_loadCells w ad n f hc,Result.andThen]
 unfold Oper.wp
 simp[execOp,hop,hx,hr,Result.andThen]
 exact hK' _ _ hK
theorem Tryz.ixC(k:Nat)(hk:k<11)(W:World):(Instr.index 182 cmdTab (.int .i64 (k:Int))).run prog W=.ok (.agg #[.string (Vj k),.int .i64 ((k:Int)+1),.int .i64 (Uh k:Int)]) W:=by
 rcases(show k=0∨k=1∨k=2∨k=3∨k=4∨k=5∨k=6∨k=7∨k=8∨k=9∨k=10 from by omega)with rfl|rfl|rfl|rfl|rfl|rfl|rfl|rfl|rfl|rfl|rfl <;> kernel_rfl
theorem Tryz.isAggC(W:World):Sem.run prog (isAgg 182) W=.ok true W:=by kernel_rfl
theorem Tryz.sizeC(W:World):Sem.run prog (sizeOf 182) W=.ok 33 W:=by kernel_rfl
def AnsCm(w:World)(r:Int×List Int×Bool)(e:Ending)(w':World):Prop:=(∃o c,e=.returned (.tuple #[.int .i64 r.1,.slice o r.2.1.length c,.bool r.2.2])∧kI.Fresh w.1.size w'.1.size w' o c r.2.1)∧Below w.1.size w w'
def kE:Kind (Int×Int):=⟨199,195,2,fun t=>[.int .i64 t.1,.int .i64 t.2],fun _=>rfl,fun a v h=>by simp at h;rcases h with rfl|rfl <;> rfl⟩
theorem Tryz.info199:(prog.info? 199).map (fun i=>(i.zero,i.size,i.bytes))=some (some (.agg #[.int .i64 0,.int .i64 0]),2,16):=by kernel_rfl
theorem kE_ok:kE.Ok:=Pd (K:=kE) underlying195 Tryz.info199 rfl (by decide) (by decide)
theorem kE_at{n:Nat}{W:World}{ao:Option Addr}{ts:List (Int×Int)}(h:kE.In n W ao ts){k:Nat}(hk:k<ts.length) :
  ∃b off,ao=some ⟨b,off,none⟩∧b<n∧∀j,j<ts.length→W.cell? ⟨b,off+j*2,none⟩=some (.int .i64 (el ts j).1)∧W.cell? ⟨b,off+j*2+1,none⟩=some (.int .i64 (el ts j).2):=by
 obtain⟨b,off,e,hb,hc⟩:=h.pos hk;exact⟨b,off,e,hb,fun j hj=>⟨hc j hj 0 (by decide),hc j hj 1 (by decide)⟩⟩
theorem copyListE_any(ao:Option Addr)(cap:Nat)(ts:List (Int×Int))(w:World)(hl:ts.length≤1048576)(hz:kE.In w.1.size w ao ts) :
  Calls prog 267 #[.slice ao ts.length cap] w fun e w'=>(∃t9,e=.returned (.slice t9 ts.length ts.length)∧kE.Fresh w.1.size w'.1.size w' t9 ts.length ts)∧Below w.1.size w w':=by
 by_cases h0:ts.length=0
 ·obtain rfl:ts=[]:=List.length_eq_zero_iff.1 h0;go_enter func267,ntmps267;go_wp2;go_ret;exact⟨⟨none,rfl,.inl rfl⟩,Below.refl _ _⟩
 ·have h0':((ts.length:Int)==0)=false:=(len1 h0).1;obtain⟨i0,z0,hi,hz0,hz1,hz2,hz3⟩:=kE_ok.info;have HZ:Zi (kE.In w.1.size w ao ts):=hz;have hby:i0.bytes*ts.length≤281474976710656:=by have:i0.bytes*ts.length≤4096*1048576:=Nat.mul_le_mul hz3 hl;omega
  clear hz;go_enter func267,ntmps267;go_wp2_with (at_make;refine wpList_make_full _ rfl _ _ kE.st rfl w.1.size kE.ty i0 z0 kE.sz kE_ok.und hi hz0 hz1 .i64 .i64 _ _ ts.length rfl rfl rfl rfl hby (by unfold maxLen;omega) (Nat.le_refl _) ?_;intro w1 hown hgrow;obtain⟨cur,hcur,hcl,_⟩:=Yk hown;have hB1:Below w.1.size w w1:=(Below.refl _ _).grown hgrow (Nat.le_refl _) (fun k e=>by cases e);obtain⟨w2,hrun,hh,hO⟩:=Uy (n:=ts.length) (cap:=cap) (ty:=3) kE_ok hcur hcl (Nat.le_refl _) HZ.o hB1;have hB2:Below w.1.size w w2:=hB1.trans (hO.below (Nat.le_refl _));have HH:=show Zi (_∧_)from And.intro hcl hh;unfold kE at hrun;dsimp only at hrun;clear hown hgrow hcur hh hO hcl);go_ret;have e:cur.drop (ts.length*kE.sz)=[]:=List.drop_eq_nil_of_le (by rw[HH.o.1];exact Nat.le_refl _);have hh:=HH.o.2;rw[e,List.append_nil]at hh;exact⟨⟨_,rfl,.inr ⟨w.1.size,rfl,(Array.getElem?_eq_some_iff.1 hh).1,Kt hh rfl (Nat.le_refl _) (by omega)⟩⟩,hB2⟩
def Qt(word:ByteArray)(rows:List (List Int)):ByteArray:=Wv (word::rows.map (Qm ⟨#[58]⟩)) ⟨#[32]⟩
theorem Mc(word:ByteArray):Qt word []=word:=Gd word _
theorem Tl(word:ByteArray)(rows:List (List Int))(r:List Int):Qt word (rows++[r])=Qt word rows++(⟨#[32]⟩++Qm ⟨#[58]⟩ r):=by
 rw[Qt,List.map_append,List.map_cons,List.map_nil,←List.cons_append,Xk (by simp),Qt]
theorem Xt(word:ByteArray)(rows:List (List Int))(hw:word.size≤100)(h:∀r∈rows,r.length≤4∧Xi r):(Qt word rows).size≤(rows.length+2)*200:=by
 have h1:=joinB_size (word::rows.map (Qm ⟨#[58]⟩)) ⟨#[32]⟩ 120 fun x hx=>by
  rcases List.mem_cons.1 hx with rfl|hx
  ·omega
  ·obtain⟨r,hr,rfl⟩:=List.mem_map.1 hx;obtain⟨h4,h6⟩:=h r hr;have h8:(⟨#[58]⟩:ByteArray).size=1:=rfl;have h9:=Td h6 ⟨#[58]⟩;rw[h8]at h9;exact Nat.le_trans h9 (Nat.le_trans (Nat.mul_le_mul (show r.length+1≤5 by omega) (Nat.le_refl 22)) (by decide))
 have h8:(⟨#[32]⟩:ByteArray).size=1:=rfl;rw[h8,List.length_cons,List.length_map]at h1;exact Nat.le_trans h1 (Nat.mul_le_mul (Nat.le_refl _) (by decide))
def Jj(t:Int×Int×Int):List Int:=[t.1,t.2.1,t.2.2]
theorem Tryz.entersOut:∀args w,(callFunc 131 args).run prog w=.ok (.enter 131 args) w:=enters_of func131 (by kernel_rfl) rfl
theorem rowOut_is(a0 a1 a2:Int)(w:World) :
  Calls prog 131 #[.agg #[.int .i64 a0,.int .i64 a1,.int .i64 a2]] w fun e w'=>(∃q,e=.returned (.slice (some ⟨q,0,none⟩) 3 3)∧kI.In w'.1.size w' (some ⟨q,0,none⟩) [a0,a1,a2])∧Below w.1.size w w':=by
 obtain⟨V,hV⟩:=nmd (w.alloc (.cells #[.int .i64 a0,.int .i64 a1,.int .i64 a2] 138));have XV:Bx V w.1.size [.int .i64 a0,.int .i64 a1,.int .i64 a2]:=by rw[hV];exact Bx.new [.int .i64 a0,.int .i64 a1,.int .i64 a2] _ rfl
 have hb:Below w.1.size w V:=by rw[hV];exact Zk _ _
 have HV:=Zd hV;have HB:=Zd hb;clear hV hb;obtain⟨c0,c1,c2⟩:=XV.y3;have cz:=XV.size;clear XV;go_enter func131,ntmps131
 go_upto_region 1 with fail
 rw[←HV.o];clear HV;go_wp2;go_ret;have hx:Bx (V.alloc (.cells #[.int .i64 a0,.int .i64 a1,.int .i64 a2] 3)) V.1.size [.int .i64 a0,.int .i64 a1,.int .i64 a2]:=Bx.new [.int .i64 a0,.int .i64 a1,.int .i64 a2] _ rfl;exact⟨⟨_,rfl,To (by simp) fun j hj=>by
  rcases j with _|_|_|j
  ·exact hx.c 0 rfl
  ·exact hx.c 1 rfl
  ·exact hx.c 2 rfl
  ·simp at hj;omega⟩,HB.o.trans ((Zk _ _).mono HB.o.size)⟩
theorem listOut_is(ao:Option Addr)(cap:Nat)(ts:List (Int×Int×Int))(word:ByteArray)(w:World)(hl:ts.length≤1000000)(hwd:word.size≤100)(h64:∀t∈ts,Xi (Jj t))(hz:kOu.In w.1.size w ao ts)(hT:PowTab w) :
  Calls prog 130 #[.string word,.slice ao ts.length cap,.func (.func 131) #[] #[]] w fun e w'=>e=.returned (.string (Qt word (ts.map Jj)))∧Below w.1.size w w':=by
 have HT:=Zd hT;have H64:=Zd h64;have HZ:=Zd hz;have HSZ:=Zd (Xt word (ts.map Jj) hwd fun r hr=>by obtain⟨x,hx,rfl⟩:=List.mem_map.1 hr;exact⟨by simp[Jj],h64 x hx⟩);clear hT h64 hz;obtain⟨w0,h0⟩:=nmd (w.alloc (.cells #[.string word] 9));have hb0:Below w.1.size w w0:=by rw[h0];exact Zk _ _
 have h0c:w0.cell? ⟨w.1.size,0,none⟩=some (.string word):=by rw[h0];simp
 have HO0:Zi (kS.Own w.1.size w0 (.slice (some ⟨w.1.size,0,none⟩) 1 1) [word]):=by
  rw[Zi,h0];exact⟨rfl,.inr ⟨w.1.size,1,#[.string word],rfl,Nat.le_refl _,(MapKept.heap_alloc w (.cells #[.string word] 9)).1,Nat.le_refl _,by unfold maxLen;omega,rfl,rfl⟩⟩
 have H0:=Zd h0;have HB0:=Zd hb0;clear h0 hb0 h0c;go_enter func130,ntmps130
 go_upto_region 2 with fail
 rw[←H0.o];clear H0;go_wp2
 go_loopw [7,14] (fun u i wr=>∃(k:Nat)(v:Value),v=u∧k≤ts.length∧i=.int .i64 k∧Zi (kS.Own w.1.size wr v (word::((ts.take k).map Jj).map (Qm ⟨#[58]⟩)))∧Below w.1.size w wr) (fun _ i _=>ts.length-(intOf i).toNat)
 case atStart=>exact⟨0,_,rfl,Nat.zero_le _,rfl,HO0,HB0.o⟩
 case round =>
  clear HO0 HB0;obtain⟨k,v,rfl,hk,rfl,hO,hB⟩:=hrel
  by_cases hlt:k<ts.length
  ·obtain⟨b,off,rfl,hb,hc⟩:=kOu_at HZ.o hlt;obtain⟨d0,d1,d2⟩:=hc k hlt;have e0:=(hB.cell (p:=⟨b,off+k*3,none⟩) hb).trans d0;have e1:=(hB.cell (p:=⟨b,off+k*3+1,none⟩) hb).trans d1;have e2:=(hB.cell (p:=⟨b,off+k*3+2,none⟩) hb).trans d2;have h6:=H64.o _ (Zl hlt);have HSC:Zi (word::((ts.take (k+1)).map Jj).map (Qm ⟨#[58]⟩)=(word::((ts.take k).map Jj).map (Qm ⟨#[58]⟩))++[Qm ⟨#[58]⟩ (Jj (el ts k))]):=by rw[Zi,Zy hlt];simp
   obtain⟨⟨a0,a1,a2⟩,et⟩:∃t,t=el ts k:=⟨_,rfl⟩;rw[←et]at e0 e1 e2 h6 HSC;dsimp only at e0 e1 e2;have hll:(word::((ts.take k).map Jj).map (Qm ⟨#[58]⟩)).length+1≤4194304:=by simp;omega
   obtain⟨xs,hxs⟩:=nmd (word::((ts.take k).map Jj).map (Qm ⟨#[58]⟩));rw[←hxs]at HSC hO hll;have h6':Xi [a0,a1,a2]:=h6;have H6:=Zd h6';have HSC:Zi (word::((ts.take (k+1)).map Jj).map (Qm ⟨#[58]⟩)=xs++[Qm ⟨#[58]⟩ [a0,a1,a2]]):=HSC;clear et hc d0 d1 d2 hxs h6 h6';obtain⟨w1,h1⟩:=nmd (wr.alloc (.cells #[.int .i64 a0,.int .i64 a1,.int .i64 a2] 138));have hb1:Below wr.1.size wr w1:=by rw[h1];exact Zk _ _
   have X1:Bx w1 wr.1.size [.int .i64 a0,.int .i64 a1,.int .i64 a2]:=by rw[h1];exact Bx.new [.int .i64 a0,.int .i64 a1,.int .i64 a2] _ rfl
   have H1:=Zd h1;have hB1:=hB.trans (hb1.mono hB.size);have HO1:=Zd (hO.o.below hb1);obtain⟨x0,x1,x2⟩:=X1.y3;have xz:=X1.size;clear h1 hb1 hO X1
   go_upto_region 5 with fail
   rw[←H1.o];clear H1 e0 e1 e2;have eg:=Tryz.entersOut;go_wp2_with (go_at_fn 131;refine(rowOut_is a0 a1 a2 w1).mono ?_;rintro e w2 ⟨⟨q,rfl,hI2⟩,hb2⟩;have HB2:=Zd (hB1.trans (hb2.mono hB1.size));have HO2:=Zd (HO1.o.below hb2);have HI2:=Zd hI2;clear hI2 hb2);go_wp2_with fail;refine(Wm (some ⟨q,0,none⟩) 3 [a0,a1,a2] ⟨#[58]⟩ w2 (by simp) (by decide) H6.o HI2.o (HT.o.later HB2.o)).mono ?_;rintro e w3 ⟨rfl,hb3⟩;obtain⟨y,hy⟩:=nmd (Qm ⟨#[58]⟩ [a0,a1,a2]);rw[←hy]at HSC ⊢;have HB3:=Zd (HB2.o.trans (hb3.mono HB2.o.size));have HA:=Zd ((HO2.o.below hb3).below (Zk w3 (.cells #[.string y] 9)));have HN:Zi (kS.In (w3.1.size+1) (w3.alloc (.cells #[.string y] 9)) (some ⟨w3.1.size,0,none⟩) [y]):=Vp (by omega) (by simp);have hBa:=Zd (Zx HB3.o (.cells #[.string y] 9));have hs3:w.1.size≤(w3.alloc (.cells #[.string y] 9)).heap.size:=hBa.o.size;clear hb3 HO2 HO1 hy HI2 H6;go_wp2_with (at_builtin;refine Kq kS_ok (w3.alloc (.cells #[.string y] 9)) (by rfl) (.tmp 18) (.tmp 23) (by rfl) w.1.size v xs (by rfl) (by exact HA.o) (by exact hs3) (some ⟨w3.1.size,0,none⟩) [y] 1 1 (by rfl) (by rfl) (by simp) _ (by exact HN.o) (by exact hll) ?_;intro v' w' hO' hB' hG' hn';have hB2:=hBa.o.trans (hB'.mono (Nat.le_refl _));have HO':=Zd hO';rw[←HSC.o]at HO';clear hO' hB' hG' hn');go_roundw
   case rel=>exact⟨k+1,v',rfl,by omega,by go_num,HO',hB2⟩
   case measure=>simp[intOf];omega
  ·obtain rfl:k=ts.length:=by omega
   rw[List.take_length]at hO;obtain⟨xs,hxs⟩:=nmd (word::(ts.map Jj).map (Qm ⟨#[58]⟩));have HLW:Zi (Qt word (ts.map Jj)=Wv xs ⟨#[32]⟩):=by rw[Zi,hxs,Qt]
   have hxl:xs.length≤4194304:=by rw[hxs];simp;omega
   rw[←hxs]at hO;clear hxs;obtain⟨qo,qc,rfl,_,hF⟩:=hO.o.fresh;have hcap:=hF.cap;have hcal:=Lx qo qc xs ⟨#[32]⟩ wr hF.in hxl hcap (by have h1:=HSZ.o;rw[List.length_map,HLW.o]at h1;exact Nat.le_trans h1 (by omega));have HCAL:=Zd hcal;clear hF hO hcap hcal HSZ;go_wp2_with fail;refine HCAL.o.mono ?_;rintro e w1 ⟨rfl,hb1⟩;go_wp2;go_ret;exact⟨by rw[HLW.o];rfl,hB.trans (hb1.mono hB.size)⟩
def Qv(t:Int×Int×Int×Int):List Int:=[t.1,t.2.1,t.2.2.1,t.2.2.2]
theorem Tryz.entersLost:∀args w,(callFunc 133 args).run prog w=.ok (.enter 133 args) w:=enters_of func133 (by kernel_rfl) rfl
theorem rowLost_is(a0 a1 a2 a3:Int)(w:World) :
  Calls prog 133 #[.agg #[.int .i64 a0,.int .i64 a1,.int .i64 a2,.int .i64 a3]] w fun e w'=>(∃q,e=.returned (.slice (some ⟨q,0,none⟩) 4 4)∧kI.In w'.1.size w' (some ⟨q,0,none⟩) [a0,a1,a2,a3])∧Below w.1.size w w':=by
 obtain⟨V,hV⟩:=nmd (w.alloc (.cells #[.int .i64 a0,.int .i64 a1,.int .i64 a2,.int .i64 a3] 141));have XV:Bx V w.1.size [.int .i64 a0,.int .i64 a1,.int .i64 a2,.int .i64 a3]:=by rw[hV];exact Bx.new [.int .i64 a0,.int .i64 a1,.int .i64 a2,.int .i64 a3] _ rfl
 have hb:Below w.1.size w V:=by rw[hV];exact Zk _ _
 have HV:=Zd hV;have HB:=Zd hb;clear hV hb;obtain⟨c0,c1,c2,c3⟩:=XV.y4;have cz:=XV.size;clear XV;go_enter func133,ntmps133
 go_upto_region 1 with fail
 rw[←HV.o];clear HV;go_wp2;go_ret;have hx:Bx (V.alloc (.cells #[.int .i64 a0,.int .i64 a1,.int .i64 a2,.int .i64 a3] 3)) V.1.size [.int .i64 a0,.int .i64 a1,.int .i64 a2,.int .i64 a3]:=Bx.new [.int .i64 a0,.int .i64 a1,.int .i64 a2,.int .i64 a3] _ rfl;exact⟨⟨_,rfl,To (by simp) fun j hj=>by
  rcases j with _|_|_|_|j
  ·exact hx.c 0 rfl
  ·exact hx.c 1 rfl
  ·exact hx.c 2 rfl
  ·exact hx.c 3 rfl
  ·simp at hj;omega⟩,HB.o.trans ((Zk _ _).mono HB.o.size)⟩
theorem listLost_is(ao:Option Addr)(cap:Nat)(ts:List (Int×Int×Int×Int))(word:ByteArray)(w:World)(hl:ts.length≤1000000)(hwd:word.size≤100)(h64:∀t∈ts,Xi (Qv t))(hz:kLo.In w.1.size w ao ts)(hT:PowTab w) :
  Calls prog 132 #[.string word,.slice ao ts.length cap,.func (.func 133) #[] #[]] w fun e w'=>e=.returned (.string (Qt word (ts.map Qv)))∧Below w.1.size w w':=by
 have HT:=Zd hT;have H64:=Zd h64;have HZ:=Zd hz;have HSZ:=Zd (Xt word (ts.map Qv) hwd fun r hr=>by obtain⟨x,hx,rfl⟩:=List.mem_map.1 hr;exact⟨by simp[Qv],h64 x hx⟩);clear hT h64 hz;obtain⟨w0,h0⟩:=nmd (w.alloc (.cells #[.string word] 9));have hb0:Below w.1.size w w0:=by rw[h0];exact Zk _ _
 have h0c:w0.cell? ⟨w.1.size,0,none⟩=some (.string word):=by rw[h0];simp
 have HO0:Zi (kS.Own w.1.size w0 (.slice (some ⟨w.1.size,0,none⟩) 1 1) [word]):=by
  rw[Zi,h0];exact⟨rfl,.inr ⟨w.1.size,1,#[.string word],rfl,Nat.le_refl _,(MapKept.heap_alloc w (.cells #[.string word] 9)).1,Nat.le_refl _,by unfold maxLen;omega,rfl,rfl⟩⟩
 have H0:=Zd h0;have HB0:=Zd hb0;clear h0 hb0 h0c;go_enter func132,ntmps132
 go_upto_region 2 with fail
 rw[←H0.o];clear H0;go_wp2
 go_loopw [7,14] (fun u i wr=>∃(k:Nat)(v:Value),v=u∧k≤ts.length∧i=.int .i64 k∧Zi (kS.Own w.1.size wr v (word::((ts.take k).map Qv).map (Qm ⟨#[58]⟩)))∧Below w.1.size w wr) (fun _ i _=>ts.length-(intOf i).toNat)
 case atStart=>exact⟨0,_,rfl,Nat.zero_le _,rfl,HO0,HB0.o⟩
 case round =>
  clear HO0 HB0;obtain⟨k,v,rfl,hk,rfl,hO,hB⟩:=hrel
  by_cases hlt:k<ts.length
  ·obtain⟨b,off,rfl,hb,hc⟩:=kLo_at HZ.o hlt;obtain⟨d0,d1,d2,d3⟩:=hc k hlt;have e0:=(hB.cell (p:=⟨b,off+k*4,none⟩) hb).trans d0;have e1:=(hB.cell (p:=⟨b,off+k*4+1,none⟩) hb).trans d1;have e2:=(hB.cell (p:=⟨b,off+k*4+2,none⟩) hb).trans d2;have e3:=(hB.cell (p:=⟨b,off+k*4+3,none⟩) hb).trans d3;have h6:=H64.o _ (Zl hlt);have HSC:Zi (word::((ts.take (k+1)).map Qv).map (Qm ⟨#[58]⟩)=(word::((ts.take k).map Qv).map (Qm ⟨#[58]⟩))++[Qm ⟨#[58]⟩ (Qv (el ts k))]):=by rw[Zi,Zy hlt];simp
   obtain⟨⟨a0,a1,a2,a3⟩,et⟩:∃t,t=el ts k:=⟨_,rfl⟩;rw[←et]at e0 e1 e2 e3 h6 HSC;dsimp only at e0 e1 e2 e3;have hll:(word::((ts.take k).map Qv).map (Qm ⟨#[58]⟩)).length+1≤4194304:=by simp;omega
   obtain⟨xs,hxs⟩:=nmd (word::((ts.take k).map Qv).map (Qm ⟨#[58]⟩));rw[←hxs]at HSC hO hll;have h6':Xi [a0,a1,a2,a3]:=h6;have H6:=Zd h6';have HSC:Zi (word::((ts.take (k+1)).map Qv).map (Qm ⟨#[58]⟩)=xs++[Qm ⟨#[58]⟩ [a0,a1,a2,a3]]):=HSC;clear et hc d0 d1 d2 d3 hxs h6 h6';obtain⟨w1,h1⟩:=nmd (wr.alloc (.cells #[.int .i64 a0,.int .i64 a1,.int .i64 a2,.int .i64 a3] 141));have hb1:Below wr.1.size wr w1:=by rw[h1];exact Zk _ _
   have X1:Bx w1 wr.1.size [.int .i64 a0,.int .i64 a1,.int .i64 a2,.int .i64 a3]:=by rw[h1];exact Bx.new [.int .i64 a0,.int .i64 a1,.int .i64 a2,.int .i64 a3] _ rfl
   have H1:=Zd h1;have hB1:=hB.trans (hb1.mono hB.size);have HO1:=Zd (hO.o.below hb1);obtain⟨x0,x1,x2,x3⟩:=X1.y4;have xz:=X1.size;clear h1 hb1 hO X1
   go_upto_region 5 with fail
   rw[←H1.o];clear H1 e0 e1 e2 e3;have eg:=Tryz.entersLost;go_wp2_with (go_at_fn 133;refine(rowLost_is a0 a1 a2 a3 w1).mono ?_;rintro e w2 ⟨⟨q,rfl,hI2⟩,hb2⟩;have HB2:=Zd (hB1.trans (hb2.mono hB1.size));have HO2:=Zd (HO1.o.below hb2);have HI2:=Zd hI2;clear hI2 hb2);go_wp2_with fail;refine(Wm (some ⟨q,0,none⟩) 4 [a0,a1,a2,a3] ⟨#[58]⟩ w2 (by simp) (by decide) H6.o HI2.o (HT.o.later HB2.o)).mono ?_;rintro e w3 ⟨rfl,hb3⟩;obtain⟨y,hy⟩:=nmd (Qm ⟨#[58]⟩ [a0,a1,a2,a3]);rw[←hy]at HSC ⊢;have HB3:=Zd (HB2.o.trans (hb3.mono HB2.o.size));have HA:=Zd ((HO2.o.below hb3).below (Zk w3 (.cells #[.string y] 9)));have HN:Zi (kS.In (w3.1.size+1) (w3.alloc (.cells #[.string y] 9)) (some ⟨w3.1.size,0,none⟩) [y]):=Vp (by omega) (by simp);have hBa:=Zd (Zx HB3.o (.cells #[.string y] 9));have hs3:w.1.size≤(w3.alloc (.cells #[.string y] 9)).heap.size:=hBa.o.size;clear hb3 HO2 HO1 hy HI2 H6;go_wp2_with (at_builtin;refine Kq kS_ok (w3.alloc (.cells #[.string y] 9)) (by rfl) (.tmp 18) (.tmp 23) (by rfl) w.1.size v xs (by rfl) (by exact HA.o) (by exact hs3) (some ⟨w3.1.size,0,none⟩) [y] 1 1 (by rfl) (by rfl) (by simp) _ (by exact HN.o) (by exact hll) ?_;intro v' w' hO' hB' hG' hn';have hB2:=hBa.o.trans (hB'.mono (Nat.le_refl _));have HO':=Zd hO';rw[←HSC.o]at HO';clear hO' hB' hG' hn');go_roundw
   case rel=>exact⟨k+1,v',rfl,by omega,by go_num,HO',hB2⟩
   case measure=>simp[intOf];omega
  ·obtain rfl:k=ts.length:=by omega
   rw[List.take_length]at hO;obtain⟨xs,hxs⟩:=nmd (word::(ts.map Qv).map (Qm ⟨#[58]⟩));have HLW:Zi (Qt word (ts.map Qv)=Wv xs ⟨#[32]⟩):=by rw[Zi,hxs,Qt]
   have hxl:xs.length≤4194304:=by rw[hxs];simp;omega
   rw[←hxs]at hO;clear hxs;obtain⟨qo,qc,rfl,_,hF⟩:=hO.o.fresh;have hcap:=hF.cap;have hcal:=Lx qo qc xs ⟨#[32]⟩ wr hF.in hxl hcap (by have h1:=HSZ.o;rw[List.length_map,HLW.o]at h1;exact Nat.le_trans h1 (by omega));have HCAL:=Zd hcal;clear hF hO hcap hcal HSZ;go_wp2_with fail;refine HCAL.o.mono ?_;rintro e w1 ⟨rfl,hb1⟩;go_wp2;go_ret;exact⟨by rw[HLW.o];rfl,hB.trans (hb1.mono hB.size)⟩
def Qj(t:Int×Int):List Int:=[t.1,t.2]
theorem Tryz.entersEmit:∀args w,(callFunc 172 args).run prog w=.ok (.enter 172 args) w:=enters_of func172 (by kernel_rfl) rfl
theorem rowEmit_is(a0 a1:Int)(w:World) :
  Calls prog 172 #[.agg #[.int .i64 a0,.int .i64 a1]] w fun e w'=>(∃q,e=.returned (.slice (some ⟨q,0,none⟩) 2 2)∧kI.In w'.1.size w' (some ⟨q,0,none⟩) [a0,a1])∧Below w.1.size w w':=by
 obtain⟨V,hV⟩:=nmd (w.alloc (.cells #[.int .i64 a0,.int .i64 a1] 199));have XV:Bx V w.1.size [.int .i64 a0,.int .i64 a1]:=by rw[hV];exact Bx.new [.int .i64 a0,.int .i64 a1] _ rfl
 have hb:Below w.1.size w V:=by rw[hV];exact Zk _ _
 have HV:=Zd hV;have HB:=Zd hb;clear hV hb;have c0:=XV.c 0 rfl;have c1:=XV.c 1 rfl;have cz:=XV.size;clear XV;go_enter func172,ntmps172
 go_upto_region 1 with fail
 rw[←HV.o];clear HV;go_wp2;go_ret;have hx:Bx (V.alloc (.cells #[.int .i64 a0,.int .i64 a1] 3)) V.1.size [.int .i64 a0,.int .i64 a1]:=Bx.new [.int .i64 a0,.int .i64 a1] _ rfl;exact⟨⟨_,rfl,To (by simp) fun j hj=>by
  rcases j with _|_|j
  ·exact hx.c 0 rfl
  ·exact hx.c 1 rfl
  ·simp at hj;omega⟩,HB.o.trans ((Zk _ _).mono HB.o.size)⟩
theorem listEmit_is(ao:Option Addr)(cap:Nat)(ts:List (Int×Int))(word:ByteArray)(w:World)(hl:ts.length≤1000000)(hwd:word.size≤100)(h64:∀t∈ts,Xi (Qj t))(hz:kE.In w.1.size w ao ts)(hT:PowTab w) :
  Calls prog 171 #[.string word,.slice ao ts.length cap,.func (.func 172) #[] #[]] w fun e w'=>e=.returned (.string (Qt word (ts.map Qj)))∧Below w.1.size w w':=by
 have HT:=Zd hT;have H64:=Zd h64;have HZ:=Zd hz;have HSZ:=Zd (Xt word (ts.map Qj) hwd fun r hr=>by obtain⟨x,hx,rfl⟩:=List.mem_map.1 hr;exact⟨by simp[Qj],h64 x hx⟩);clear hT h64 hz;obtain⟨w0,h0⟩:=nmd (w.alloc (.cells #[.string word] 9));have hb0:Below w.1.size w w0:=by rw[h0];exact Zk _ _
 have h0c:w0.cell? ⟨w.1.size,0,none⟩=some (.string word):=by rw[h0];simp
 have HO0:Zi (kS.Own w.1.size w0 (.slice (some ⟨w.1.size,0,none⟩) 1 1) [word]):=by
  rw[Zi,h0];exact⟨rfl,.inr ⟨w.1.size,1,#[.string word],rfl,Nat.le_refl _,(MapKept.heap_alloc w (.cells #[.string word] 9)).1,Nat.le_refl _,by unfold maxLen;omega,rfl,rfl⟩⟩
 have H0:=Zd h0;have HB0:=Zd hb0;clear h0 hb0 h0c;go_enter func171,ntmps171
 go_upto_region 2 with fail
 rw[←H0.o];clear H0;go_wp2
 go_loopw [7,14] (fun u i wr=>∃(k:Nat)(v:Value),v=u∧k≤ts.length∧i=.int .i64 k∧Zi (kS.Own w.1.size wr v (word::((ts.take k).map Qj).map (Qm ⟨#[58]⟩)))∧Below w.1.size w wr) (fun _ i _=>ts.length-(intOf i).toNat)
 case atStart=>exact⟨0,_,rfl,Nat.zero_le _,rfl,HO0,HB0.o⟩
 case round =>
  clear HO0 HB0;obtain⟨k,v,rfl,hk,rfl,hO,hB⟩:=hrel
  by_cases hlt:k<ts.length
  ·obtain⟨b,off,rfl,hb,hc⟩:=kE_at HZ.o hlt;obtain⟨d0,d1⟩:=hc k hlt;have e0:=(hB.cell (p:=⟨b,off+k*2,none⟩) hb).trans d0;have e1:=(hB.cell (p:=⟨b,off+k*2+1,none⟩) hb).trans d1;have h6:=H64.o _ (Zl hlt);have HSC:Zi (word::((ts.take (k+1)).map Qj).map (Qm ⟨#[58]⟩)=(word::((ts.take k).map Qj).map (Qm ⟨#[58]⟩))++[Qm ⟨#[58]⟩ (Qj (el ts k))]):=by rw[Zi,Zy hlt];simp
   obtain⟨⟨a0,a1⟩,et⟩:∃t,t=el ts k:=⟨_,rfl⟩;rw[←et]at e0 e1 h6 HSC;dsimp only at e0 e1;have hll:(word::((ts.take k).map Qj).map (Qm ⟨#[58]⟩)).length+1≤4194304:=by simp;omega
   obtain⟨xs,hxs⟩:=nmd (word::((ts.take k).map Qj).map (Qm ⟨#[58]⟩));rw[←hxs]at HSC hO hll;have h6':Xi [a0,a1]:=h6;have H6:=Zd h6';have HSC:Zi (word::((ts.take (k+1)).map Qj).map (Qm ⟨#[58]⟩)=xs++[Qm ⟨#[58]⟩ [a0,a1]]):=HSC;clear et hc d0 d1 hxs h6 h6';obtain⟨w1,h1⟩:=nmd (wr.alloc (.cells #[.int .i64 a0,.int .i64 a1] 199));have hb1:Below wr.1.size wr w1:=by rw[h1];exact Zk _ _
   have X1:Bx w1 wr.1.size [.int .i64 a0,.int .i64 a1]:=by rw[h1];exact Bx.new [.int .i64 a0,.int .i64 a1] _ rfl
   have H1:=Zd h1;have hB1:=hB.trans (hb1.mono hB.size);have HO1:=Zd (hO.o.below hb1);have x0:=X1.c 0 rfl;have x1:=X1.c 1 rfl;have xz:=X1.size;clear h1 hb1 hO X1
   go_upto_region 5 with fail
   rw[←H1.o];clear H1 e0 e1;have eg:=Tryz.entersEmit;go_wp2_with (go_at_fn 172;refine(rowEmit_is a0 a1 w1).mono ?_;rintro e w2 ⟨⟨q,rfl,hI2⟩,hb2⟩;have HB2:=Zd (hB1.trans (hb2.mono hB1.size));have HO2:=Zd (HO1.o.below hb2);have HI2:=Zd hI2;clear hI2 hb2);go_wp2_with fail;refine(Wm (some ⟨q,0,none⟩) 2 [a0,a1] ⟨#[58]⟩ w2 (by simp) (by decide) H6.o HI2.o (HT.o.later HB2.o)).mono ?_;rintro e w3 ⟨rfl,hb3⟩;obtain⟨y,hy⟩:=nmd (Qm ⟨#[58]⟩ [a0,a1]);rw[←hy]at HSC ⊢;have HB3:=Zd (HB2.o.trans (hb3.mono HB2.o.size));have HA:=Zd ((HO2.o.below hb3).below (Zk w3 (.cells #[.string y] 9)));have HN:Zi (kS.In (w3.1.size+1) (w3.alloc (.cells #[.string y] 9)) (some ⟨w3.1.size,0,none⟩) [y]):=Vp (by omega) (by simp);have hBa:=Zd (Zx HB3.o (.cells #[.string y] 9));have hs3:w.1.size≤(w3.alloc (.cells #[.string y] 9)).heap.size:=hBa.o.size;clear hb3 HO2 HO1 hy HI2 H6;go_wp2_with (at_builtin;refine Kq kS_ok (w3.alloc (.cells #[.string y] 9)) (by rfl) (.tmp 18) (.tmp 23) (by rfl) w.1.size v xs (by rfl) (by exact HA.o) (by exact hs3) (some ⟨w3.1.size,0,none⟩) [y] 1 1 (by rfl) (by rfl) (by simp) _ (by exact HN.o) (by exact hll) ?_;intro v' w' hO' hB' hG' hn';have hB2:=hBa.o.trans (hB'.mono (Nat.le_refl _));have HO':=Zd hO';rw[←HSC.o]at HO';clear hO' hB' hG' hn');go_roundw
   case rel=>exact⟨k+1,v',rfl,by omega,by go_num,HO',hB2⟩
   case measure=>simp[intOf];omega
  ·obtain rfl:k=ts.length:=by omega
   rw[List.take_length]at hO;obtain⟨xs,hxs⟩:=nmd (word::(ts.map Qj).map (Qm ⟨#[58]⟩));have HLW:Zi (Qt word (ts.map Qj)=Wv xs ⟨#[32]⟩):=by rw[Zi,hxs,Qt]
   have hxl:xs.length≤4194304:=by rw[hxs];simp;omega
   rw[←hxs]at hO;clear hxs;obtain⟨qo,qc,rfl,_,hF⟩:=hO.o.fresh;have hcap:=hF.cap;have hcal:=Lx qo qc xs ⟨#[32]⟩ wr hF.in hxl hcap (by have h1:=HSZ.o;rw[List.length_map,HLW.o]at h1;exact Nat.le_trans h1 (by omega));have HCAL:=Zd hcal;clear hF hO hcap hcal HSZ;go_wp2_with fail;refine HCAL.o.mono ?_;rintro e w1 ⟨rfl,hb1⟩;go_wp2;go_ret;exact⟨by rw[HLW.o];rfl,hB.trans (hb1.mono hB.size)⟩
def outS(k a b v:Int):List Int:=if(Jo k a b v).2=true then[v]else(Jo k a b v).1
theorem outM_S(gs:List PNode)(k:Nat)(v:Int):Tb gs k v=outS (el gs k).2.1 (el gs k).2.2.1 (el gs k).2.2.2.1 v:=rfl
def AnsJ(w:World)(q:List Int)(e:Ending)(w':World):Prop:=(∃go qc,e=.returned (.slice go q.length qc)∧(go=none→qc=0)∧kI.Fresh w.1.size w'.1.size w' go qc q)∧Below w.1.size w w'
theorem l11Out_is(k a b v:Int)(w:World)(hg:Zg k a b=true)(hv:Ju v=true) :
  Calls prog 218 #[.agg #[.int .i64 k,.int .i64 a,.int .i64 b],.int .i64 v] w (AnsJ w (outS k a b v)):=by
 have hB0:=Zk w (.cells #[.int .i64 k,.int .i64 a,.int .i64 b] 24);have HA:=Zd (Mn k a b v (w.alloc (.cells #[.int .i64 k,.int .i64 a,.int .i64 b] 24)) hg hv)
 unfold outS
 generalize Jo k a b v=r at HA
 obtain⟨l,f⟩:=r;dsimp only at HA ⊢;clear hg hv
 cases f
 ·rw[if_neg (by simp)];go_enter func218,ntmps218;go_wp2_with fail;refine HA.o.mono ?_;rintro e w1 ⟨⟨o,c,rfl,hno,hF⟩,hb1⟩;have hB1:=hB0.trans (hb1.mono hB0.size);dsimp only at hF ⊢;have HF:=Zd (hF.wide hB0.size (Nat.le_refl _));clear hF;go_wp2;go_ret;exact⟨⟨o,c,rfl,hno,HF.o⟩,hB1⟩
 ·rw[if_pos rfl];go_enter func218,ntmps218;go_wp2_with fail;refine HA.o.mono ?_;rintro e w1 ⟨⟨o,c,rfl,hno,hF⟩,hb1⟩;have hB1:=hB0.trans (hb1.mono hB0.size);dsimp only at hF ⊢;clear hF;go_wp2;go_ret;exact⟨⟨_,_,rfl,(fun h=>by cases h),Rh hB1.size⟩,Zx hB1 _⟩
theorem letThrough_is(k a b v:Int)(w:World)(hg:Zg k a b=true)(hv:Ju v=true) :
  Calls prog 245 #[.agg #[.int .i64 k,.int .i64 a,.int .i64 b],.int .i64 v] w (AnsJ w (outS k a b v)):=by
 have hB0:=Zk w (.cells #[.int .i64 k,.int .i64 a,.int .i64 b] 24);have HA:=Zd (Bk k a b v (w.alloc (.cells #[.int .i64 k,.int .i64 a,.int .i64 b] 24)));rw[Uw hg hv]at HA
 unfold outS
 generalize Jo k a b v=r at HA
 obtain⟨l,f⟩:=r;dsimp only at HA ⊢;clear hg hv
 cases f
 ·rw[if_neg (by simp)];go_enter func245,ntmps245;go_wp2_with fail;refine HA.o.mono ?_;rintro e w1 ⟨⟨o,c,rfl,hno,hF⟩,hb1⟩;have hB1:=hB0.trans (hb1.mono hB0.size);dsimp only at hF ⊢;have HF:=Zd (hF.wide hB0.size (Nat.le_refl _));clear hF;go_wp2;go_ret;exact⟨⟨o,c,rfl,hno,HF.o⟩,hB1⟩
 ·rw[if_pos rfl];go_enter func245,ntmps245;go_wp2_with fail;refine HA.o.mono ?_;rintro e w1 ⟨⟨o,c,rfl,hno,hF⟩,hb1⟩;have hB1:=hB0.trans (hb1.mono hB0.size);dsimp only at hF ⊢;clear hF;go_wp2;go_ret;exact⟨⟨_,_,rfl,(fun h=>by cases h),Rh hB1.size⟩,Zx hB1 _⟩
def Tr(out m r:List (Int×Int)):Prop:=r=out++m∨(400<r.length∧r.length≤out.length+m.length)
theorem Tr.trans{out m1 r1 m2 r2:List (Int×Int)}(h1:Tr out m1 r1)(h2:Tr r1 m2 r2):Tr out (m1++m2) r2:=by
 rcases h1 with rfl|⟨h1,h1'⟩
 ·rcases h2 with rfl|⟨h2,h2'⟩
  ·exact .inl (by simp)
  ·exact .inr ⟨h2,by simp at h2' ⊢;omega⟩
 ·rcases h2 with rfl|⟨h2,h2'⟩
  ·exact .inr ⟨by simp;omega,by simp;omega⟩
  ·exact .inr ⟨h2,by simp;omega⟩
theorem Tr.refl(out:List (Int×Int)):Tr out [] out:=.inl (by simp)
theorem Tr.len{out m r:List (Int×Int)}(h:Tr out m r):r.length≤out.length+m.length:=by
 rcases h with rfl|⟨_,h⟩
 ·simp
 ·exact h
theorem emits_mk{n:Nat}{W:World}{p:Nat}{x y:Int}(hp:p<n)(h0:W.cell? ⟨p,0,none⟩=some (.int .i64 x))(h1:W.cell? ⟨p,1,none⟩=some (.int .i64 y)):kE.In n W (some ⟨p,0,none⟩) [(x,y)]:=by
 refine .inr ⟨p,0,rfl,hp,fun j hj i hi=>?_⟩;have hj0:j=0:=by simp at hj;exact hj
 subst hj0;have hi2:i<2:=hi
 rcases(show i=0∨i=1 from by omega)with rfl|rfl
 ·simpa[kE,el]using h0
 ·simpa[kE,el]using h1
def NV(n:Nat)(W:World)(ao:Option Addr)(gs:List PNode):Prop:=∀k,k<gs.length→∃b off nxo nxc,ao=some ⟨b,off,none⟩∧b<n∧W.cell? ⟨b,off+k*6+5,none⟩=some (.slice nxo (nxP gs k).length nxc)∧kI.In n W nxo (nxP gs k)∧W.cell? ⟨b,off+k*6+1,none⟩=some (.int .i64 (el gs k).2.1)∧W.cell? ⟨b,off+k*6+2,none⟩=some (.int .i64 (el gs k).2.2.1)∧W.cell? ⟨b,off+k*6+3,none⟩=some (.int .i64 (el gs k).2.2.2.1)
theorem nv_of{n:Nat}{W:World}{ao:Option Addr}{ts:List LNode}(hz:DIn Ja n W ao ts):NV n W ao (ts.map Zz):=fun k hk=>by
 rw[Zb]at hk;obtain⟨b,off,e,hb,hc⟩:=Qw hz.1 hk;have d:=hc k hk;have hin:=hz.2 k hk;have hev:nxP (ts.map Zz) k=(el ts k).2.2.2.2.2.2.2:=by rw[nxP,Jz hk];rfl
 rw[hev,Jz hk];exact⟨b,off,_,_,e,hb,d.2.2.2.2.2,hin,d.2.1,d.2.2.1,d.2.2.2.1⟩
theorem NV.below{n:Nat}{W W':World}{ao:Option Addr}{gs:List PNode}(h:NV n W ao gs)(hb:Below n W W'):NV n W' ao gs:=fun k hk=>by
 obtain⟨b,off,nxo,nxc,e,hbn,c5,hi,c1,c2,c3⟩:=h k hk;refine⟨b,off,nxo,nxc,e,hbn,(hb.cell (p:=⟨b,_,none⟩) hbn).trans c5,?_,(hb.cell (p:=⟨b,_,none⟩) hbn).trans c1,(hb.cell (p:=⟨b,_,none⟩) hbn).trans c2,(hb.cell (p:=⟨b,_,none⟩) hbn).trans c3⟩
 rcases hi with h|⟨b',o',e',hb',hc'⟩
 ·exact .inl h
 ·exact .inr ⟨b',o',e',hb',fun j hj i hi=>(hb.cell (p:=⟨b',_,none⟩) hb').trans (hc' j hj i hi)⟩
structure GrM(w w':World)(v v':Value):Prop where
 g:w.grownBy w' v.ownBlock
 n:∀b,v'.ownBlock=some b→v.ownBlock=some b∨w.1.size≤b
theorem GrM.refl(w:World)(v:Value):GrM w w v v:=⟨World.grownBy.refl _ _,fun _ h=>.inl h⟩
theorem GrM.trans{w w1 w2:World}{v v1 v2:Value}(h1:GrM w w1 v v1)(h2:GrM w1 w2 v1 v2):GrM w w2 v v2:=by
 refine⟨⟨h2.g.os.trans h1.g.os,h2.g.tape.trans h1.g.tape,h2.g.output.trans h1.g.output,Nat.le_trans h1.g.size h2.g.size,fun b hb hn=>?_⟩,fun b hb=>?_⟩
 ·have e1:=h1.g.block b hb hn;refine(h2.g.block b (Nat.lt_of_lt_of_le hb h1.g.size) fun h=>?_).trans e1
  rcases h1.n b h.symm with h|h
  ·exact hn h.symm
  ·omega
 ·rcases h2.n b hb with h|h
  ·exact h1.n b h
  ·exact .inr (Nat.le_trans h1.g.size h)
theorem GrM.of_below{w w':World}(h:Below w.1.size w w')(v:Value):GrM w w' v v:=⟨⟨h.os,h.tape,h.output,h.size,fun b hb _=>h.block b hb⟩,fun _ h=>.inl h⟩
theorem own_ltG{α:Type}{K:Kind α}{lo:Nat}{W:World}{v:Value}{xs:List α}(h:K.Own lo W v xs){g:Nat}(hg:v.ownBlock=some g):g<W.1.size:=by
 rcases h.2 with⟨e,_⟩|⟨g',cap',cur,e,hb,hh,r⟩
 ·rw[e]at hg;simp[Value.ownBlock]at hg
 ·rw[e]at hg
  simp[Value.ownBlock]at hg
  subst hg;exact(Array.getElem?_eq_some_iff.1 hh).1
theorem Ta{α:Type}{K:Kind α}{lo:Nat}{W:World}{v:Value}{xs:List α}(h:K.Own lo W v xs):∃go qc,v=.slice go xs.length qc:=by
 obtain⟨go,qc,e,_⟩:=h.fresh;exact⟨go,qc,e⟩
def thenM(gs:List PNode)(k:Nat)(x:Int):List (Int×Int):=if(nxP gs k).length=0 then[((k:Int),x)]else(nxP gs k).flatMap fun y=>Xl gs y.toNat x
theorem meanG_then{gs:List PNode}{R:List Int}(h:Ordd gs R)(hE:EdgesIn gs){k:Nat}(hk:k<gs.length)(v:Int):Xl gs k v=(Tb gs k v).flatMap (thenM gs k):=meanG_eq h hE hk v
theorem flat_take{α β:Type} [Inhabited α] (f:α→List β) {l:List α} {m:Nat} (hm:m<l.length):(l.take (m+1)).flatMap f=(l.take m).flatMap f++f (el l m):=by
 rw[List.take_add_one,List.flatMap_append,List.getElem?_eq_getElem hm,Km hm]
 simp
theorem flat_le{α β:Type}(f:α→List β)(l:List α)(m:Nat):((l.take m).flatMap f).length≤(l.flatMap f).length:=by
 conv=>rhs;rw[←List.take_append_drop m l,List.flatMap_append,List.length_append]
 omega
theorem Tr.over{out m m2 r:List (Int×Int)}(h:Tr out m r)(hr:400<r.length)(hm:m.length≤m2.length):Tr out m2 r:=.inr ⟨hr,by have:=h.len;omega⟩
def AnsM(lo:Nat)(w:World)(val:Value)(out m:List (Int×Int))(e:Ending)(w':World):Prop:=∃(v':Value)(r:List (Int×Int)),e=.returned v'∧Zi (kE.Own lo w' v' r)∧Zi (Tr out m r)∧r.length≤401∧Zi (GrM w w' val v')
def MeanC(lo:Nat)(ao:Option Addr)(cap:Nat)(gs:List PNode)(R:List Int)(n:Nat):Prop:=∀(k:Nat)(v:Int)(w:World)(val:Value)(out:List (Int×Int)),k<gs.length→rk R k≤n→Ju v=true→Zi (kE.Own lo w val out)→out.length≤401→Zi (NV lo w ao gs)→lo≤w.1.size→
  Calls prog 184 #[.slice ao gs.length cap,.int .i64 (k:Int),.int .i64 v,val] w (AnsM lo w val out (Xl gs k v))
theorem l11Mean_step(lo:Nat)(ao:Option Addr)(cap:Nat)(gs:List PNode)(R:List Int)(n:Nat)(hR:Ordd gs R)(hE:EdgesIn gs)(hS:Wy gs)(ih:MeanC lo ao cap gs R n):MeanC lo ao cap gs R (n+1):=by
 intro k v w val out hk hrk hv hO hl hV hlo;have hgl:gs.length≤10:=hE.many;have hki:(k:Int)<(gs.length:Int):=by omega
 obtain⟨b,off,nxo,nxc,rfl,hb,c5,hI,c1,c2,c3⟩:=hV.o k hk;have HI:=Zd hI;have HOUT:=Zd (l11Out_is (el gs k).2.1 (el gs k).2.2.1 (el gs k).2.2.2.1 v w (hS k hk) hv);rw[←outM_S]at HOUT;have HVB:=Zd (outM_val (hS k hk) hv);have HRN:=Zd (hR.rk_next hE hk);have HM:=Zd (meanG_then hR hE hk v);have HTH:Zi (∀x,thenM gs k x=if(nxP gs k).length=0 then[((k:Int),x)]else(nxP gs k).flatMap fun y=>Xl gs y.toNat x):=fun x=>rfl
 obtain⟨A,hA⟩:=nmd (Xl gs k v);rw[←hA]at HM ⊢;clear hA;have hnl:(nxP gs k).length≤10:=hE.few k hk
 generalize hnx:nxP gs k=nx at c5 HI HRN HTH hnl
 generalize hq:Tb gs k v=q at HOUT HVB HM
 have hql:q.length≤3:=by
  have h1:=Hp (hS k hk) v;have h2:=(Gf (el gs k).2.1 (el gs k).2.2.1 (el gs k).2.2.2.1).2;rw[hq]at h1
  omega
 generalize(el gs k).2.1=kd at c1 HOUT
 generalize(el gs k).2.2.1=sa at c2 HOUT
 generalize(el gs k).2.2.2.1=sb at c3 HOUT
 have HV:=hV;clear hnx hq hI hv hV;go_enter func184,ntmps184;go_wp2_with fail;refine HOUT.o.mono ?_;rintro e w1 ⟨⟨qo,qc,rfl,hno,hF⟩,hb1⟩;have FQ:=Zd hF;have O1:=Zd (hO.o.below hb1);have HB1:Zi (Below w.1.size w w1):=hb1;have hs1:=hb1.size;clear hF hb1 HOUT;dsimp only;go_wp2
 go_loopw [3,21] (fun u j wr=>∃(m:Nat)(r:List (Int×Int)),j=.int .i64 (m:Int)∧m≤q.length∧Zi (kE.Own lo wr u r)∧Zi (Tr out ((q.take m).flatMap (thenM gs k)) r)∧r.length≤401∧Zi (GrM w1 wr val u)) (fun _ j _=>q.length-(intOf j).toNat)
 case atStart=>exact⟨0,out,rfl,Nat.zero_le _,O1,Tr.refl _,hl,GrM.refl _ _⟩
 case round =>
  rename World=>wo
  obtain⟨m,r,rfl,hm,hO2,hT,hr,hG⟩:=hrel;have hBl:Below lo w wo:=(HB1.o.mono hlo).trans (O1.o.belowG hG.o.g (by omega));obtain⟨go,gc,rfl⟩:=Ta hO2.o
  by_cases hmq:m<q.length
  ·have HQ:Zi (kI.In wo.1.size wo qo q):=in_grown hG.o.g (FQ.o.in) (fun h0 b' off' e h=>by
    have h1:=own_ltG hO.o h
    rcases FQ.o with h2|⟨g5,e5,_,ho5⟩
    ·rw[h2]at h0;simp at h0
    ·rw[e]at e5
     simp at e5
     have h3:=(Jt ho5).1
     omega)
   obtain⟨bq,oq,rfl,hbq,hcq⟩:=Zo HQ.o hmq;have cm:=hcq m hmq;have HX:=Zd (HVB.o _ (Zl hmq));have HFT:=Zd (flat_take (thenM gs k) hmq);rw[HTH.o]at HFT
   generalize el q m=x at cm HX HFT
   have hmi:(m:Int)<(q.length:Int):=by omega
   have d5:=(hBl.cell (p:=⟨b,off+k*6+5,none⟩) hb).trans c5;have HIr:=Zd ((HV.o.below hBl));clear hcq
   by_cases h4:400<r.length
   ·have HTT:=Zd (hT.o.over h4 (flat_le (thenM gs k) q m));have h4':(400:Int)<(r.length:Int):=by omega
    clear h4;go_wp2;go_ret;exact⟨_,r,rfl,hO2,(by rw[HM.o];exact HTT.o),hr,(GrM.of_below HB1.o _).trans hG.o⟩
   ·have h4':¬(400:Int)<(r.length:Int):=by omega
    by_cases h0:nx.length=0
    ·rw[if_pos h0]at HFT;have hr4:r.length+1≤401:=by omega
     clear h4;obtain⟨V,hVV⟩:=nmd (wo.alloc (.cells #[.int .i64 (k:Int),.int .i64 x] 199));have HBV:Below wo.1.size wo V:=by rw[hVV];exact Zk _ _
     have OV:=Zd (hO2.o.below HBV);have HN:Zi (kE.In V.1.size V (some ⟨wo.1.size,0,none⟩) [((k:Int),x)]):=emits_mk (by rw[hVV];simp) (by rw[hVV];simp) (by rw[hVV];simp);have HLV:Zi (lo≤V.1.size):=Nat.le_trans (Nat.le_trans hlo hs1) (Nat.le_trans hG.o.g.size HBV.size);have HBVh:=Zd HBV;have HVV:=Zd hVV;clear hVV HBV;go_wp2_with (at_builtin;rw[←HVV.o];refine Kq kE_ok V rfl (.tmp 36) (.tmp 40) rfl lo (.slice go r.length gc) r rfl OV.o HLV.o (some ⟨wo.1.size,0,none⟩) [((k:Int),x)] 1 1 rfl rfl (by simp) _ HN.o (by simp;omega) ?_;intro v2 w2 hOa hBa hGa hna;have OA:=Zd hOa;have GA:Zi (GrM w1 w2 val v2):=hG.o.trans ((GrM.of_below HBVh.o _).trans ⟨hGa,hna⟩);obtain⟨ga,ca,rfl⟩:=Ta hOa;have e5:=(hBa.cell (p:=⟨b,off+k*6+5,none⟩) hb).trans (((HBVh.o.mono (by have:=hG.o.g.size;omega)).cell (p:=⟨b,off+k*6+5,none⟩) hb).trans d5);clear hOa hBa hGa hna)
     go_loopw [3,48] (fun u2 j2 wr2=>u2=.slice ga (r++[((k:Int),x)]).length ca∧j2=.int .i64 0∧wr2=w2) (fun _ _ _=>0)
     case atStart=>exact⟨by simp,rfl,rfl⟩
     case round =>
      obtain⟨rfl,rfl,rfl⟩:=hrel;go_wp2;go_roundw
      case rel=>exact⟨m+1,r++[((k:Int),x)],by go_num,by omega,OA,(by rw[HFT.o];exact hT.o.trans (.inl rfl)),by simp;omega,GA⟩
      case measure=>simp[intOf];omega
    ·rw[if_neg h0]at HFT;have hr4:r.length≤400:=by omega
     have HIN:Zi (kI.In lo wo nxo nx):=by
      rcases HI.o with h|⟨b',o',e',hb',hc'⟩
      ·exact .inl h
      ·exact .inr ⟨b',o',e',hb',fun j hj i hi=>(hBl.cell (p:=⟨b',_,none⟩) hb').trans (hc' j hj i hi)⟩
     have hslo:lo≤wo.1.size:=Nat.le_trans hlo (Nat.le_trans hs1 hG.o.g.size);clear h4;go_wp2
     go_loopw [3,48] (fun u2 j2 wr2=>∃(m2:Nat)(r2:List (Int×Int)),j2=.int .i64 (m2:Int)∧m2≤nx.length∧Zi (kE.Own lo wr2 u2 r2)∧Zi (Tr r ((nx.take m2).flatMap fun y=>Xl gs y.toNat x) r2)∧r2.length≤401∧Zi (GrM wo wr2 (.slice go r.length gc) u2)) (fun _ j2 _=>nx.length-(intOf j2).toNat)
     case atStart=>exact⟨0,r,rfl,Nat.zero_le _,hO2,Tr.refl _,hr,GrM.refl _ _⟩
     case round =>
      obtain⟨m2,r2,rfl,hm2,hO3,hT3,hr3,hG3⟩:=hrel;have hB3:Below lo wo wr:=hO2.o.belowG hG3.o.g hslo
      by_cases hmn:m2<nx.length
      ·obtain⟨nb,noff,rfl,hnb,hnc⟩:=Zo HIN.o hmn;have cn:=(hB3.cell (p:=⟨nb,noff+m2,none⟩) hnb).trans (hnc m2 hmn);have HFM:=Zd (flat_take (fun y=>Xl gs y.toNat x) hmn);obtain⟨j,hj,hyj,hrj⟩:=HRN.o (el nx m2) (Zl hmn);rw[hyj]at cn HFM;rw[Int.toNat_natCast]at HFM;have hmn':(m2:Int)<(nx.length:Int):=by omega
       have HC:=Zd (ih j x wr _ r2 hj (by omega) HX.o hO3 hr3 (HIr.o.below hB3) (Nat.le_trans hslo hB3.size));clear hnc hyj;go_wp2_with fail;refine HC.o.mono ?_;rintro e w5 ⟨v5,r5,rfl,hO5,hT5,hr5,hG5⟩;dsimp only;go_wp2;go_roundw
       case rel=>exact⟨m2+1,r5,by go_num,by omega,hO5,(by rw[HFM.o];exact hT3.o.trans hT5.o),hr5,hG3.o.trans hG5.o⟩
       case measure=>simp[intOf];omega
      ·obtain rfl:m2=nx.length:=by omega
       rw[List.take_length]at hT3;clear hmn;go_wp2;go_roundw
       case rel=>exact⟨m+1,r2,by go_num,by omega,hO3,(by rw[HFT.o];exact hT.o.trans hT3.o),hr3,hG.o.trans hG3.o⟩
       case measure=>simp[intOf];omega
  ·obtain rfl:m=q.length:=by omega
   have HTT:=hT;rw[List.take_length,←HM.o]at HTT;clear hmq;go_wp2;go_ret;exact⟨_,r,rfl,hO2,HTT.o,hr,(GrM.of_below HB1.o _).trans hG.o⟩
theorem Ms(lo:Nat)(ao:Option Addr)(cap:Nat)(gs:List PNode)(R:List Int)(hR:Ordd gs R)(hE:EdgesIn gs)(hS:Wy gs):∀n,MeanC lo ao cap gs R n
 |0=>fun k v w val out hk hrk _ _ _ _ _=>by have:=hR.rk_pos hk;omega
 |n+1=>l11Mean_step lo ao cap gs R n hR hE hS (Ms lo ao cap gs R hR hE hS n)
theorem l11Mean_is(ao:Option Addr)(cap:Nat)(ts:List LNode)(R:List Int)(hR:Ordd (ts.map Zz) R)(hE:EdgesIn (ts.map Zz))(hS:Wy (ts.map Zz))(k:Nat)(v:Int)(w:World)(hk:k<ts.length)(hv:Ju v=true)(hz:DIn Ja w.1.size w ao ts) :
  Calls prog 184 #[.slice ao ts.length cap,.int .i64 (k:Int),.int .i64 v,.slice none 0 0] w fun e w'=>∃go gc r,e=.returned (.slice go r.length gc)∧(go=none→gc=0)∧kE.Fresh w.1.size w'.1.size w' go gc r∧Tr [] (Xl (ts.map Zz) k v) r∧r.length≤401∧Below w.1.size w w':=by
 have h:=Ms w.1.size ao cap (ts.map Zz) R hR hE hS _ k v w (.slice none 0 0) [] (by rw[Zb];exact hk) (Nat.le_refl _) hv (Kind.Own.nil _ _ _) (by simp) (nv_of hz) (Nat.le_refl _);rw[Zb]at h;refine h.mono ?_;rintro e w' ⟨v',r,rfl,hO,hT,hl,hG⟩;obtain⟨go,gc,rfl,hno,hF⟩:=hO.o.fresh;exact⟨go,gc,r,rfl,hno,hF,hT.o,hl,⟨hG.o.g.os,hG.o.g.tape,hG.o.g.output,hG.o.g.size,fun b hb=>hG.o.g.block b hb (by simp[Value.ownBlock])⟩⟩
end Go.Proofs.YtdacedbfnlkghaaGreatDoor