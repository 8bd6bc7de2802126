import Derived.Shelf.LaysM
import Derived.Test.YtafmbokfkbccaaaGreatDoorProg
import Derived.Test.YtafmbokfkbccaaaGreatDoorJB7
import Derived.Test.YtafmbokfkbccaaaGreatDoorRows
import Derived.HandedShaped
import Derived.LaidHandle
import Derived.LaidLaws
import Derived.LaidMore
import Derived.JoinedOf
import Derived.Test.YtafmbokfkbccaaaGreatDoorCards
import Derived.SevenTiedAt
namespace Go.Proofs
open Go.Shelf
def Tryz.laysM145_ren:Go.Shelf.Ren:=⟨fun|145=>299|220=>331|219=>344|217=>351|225=>352|224=>353|267=>354|266=>357|314=>358|n=>n,fun|9=>9|4=>4|59=>355|3=>3|5=>5|46=>202|146=>398|51=>343|n=>n,fun|1=>1|n=>n⟩
theorem Tryz.laysM145:Go.Proofs.LaysM.n145 Tryz.prog Tryz.laysM145_ren:={
 mixed:=by kernel_rfl
 f145:=Tryz.func299.trans (congrArg some (by kernel_rfl))
 f217:=Tryz.func351.trans (congrArg some (by kernel_rfl))
 f219:=Tryz.func344.trans (congrArg some (by kernel_rfl))
 f220:=Tryz.func331.trans (congrArg some (by kernel_rfl))
 f224:=Tryz.func353.trans (congrArg some (by kernel_rfl))
 f225:=Tryz.func352.trans (congrArg some (by kernel_rfl))
 f266:=Tryz.func357.trans (congrArg some (by kernel_rfl))
 f267:=Tryz.func354.trans (congrArg some (by kernel_rfl))
 f314:=Tryz.func358.trans (congrArg some (by kernel_rfl))
 t3:=Tryz.underlying3
 a3:=Tryz.isAgg3
 z3:=Tryz.sizeOf3
 v3:=Tryz.zeroValue3
 t4:=Tryz.underlying4
 a4:=Tryz.isAgg4
 z4:=Tryz.sizeOf4
 v4:=Tryz.zeroValue4
 t5:=Tryz.underlying5
 a5:=Tryz.isAgg5
 z5:=Tryz.sizeOf5
 v5:=Tryz.zeroValue5
 t9:=Tryz.underlying9
 a9:=Tryz.isAgg9
 z9:=Tryz.sizeOf9
 v9:=Tryz.zeroValue9
 t46:=Tryz.underlying202
 a46:=Tryz.isAgg202
 z46:=Tryz.sizeOf202
 v46:=Tryz.zeroValue202
 t51:=Tryz.underlying343
 a51:=Tryz.isAgg343
 z51:=Tryz.sizeOf343
 v51:=Tryz.zeroValue343
 t59:=Tryz.underlying355
 a59:=Tryz.isAgg355
 z59:=Tryz.sizeOf355
 v59:=Tryz.zeroValue355
 t146:=Tryz.underlying398
 a146:=Tryz.isAgg398
 z146:=Tryz.sizeOf398
 v146:=Tryz.zeroValue398
 g1:=by kernel_rfl
 i3:=by kernel_rfl
 i4:=by kernel_rfl
 i5:=by kernel_rfl
 i9:=by kernel_rfl
 i46:=by kernel_rfl
 i51:=by kernel_rfl
 i59:=by kernel_rfl
 i146:=by kernel_rfl
 m1:=by kernel_rfl
 s1_3:=fun w h=>Go.Proofs.cell_of_shapedOpen_int (zero:=#[.int .i64 0]) (t:=3) h (of_decide_eq_true (by kernel_rfl)) (by kernel_rfl) rfl (by kernel_rfl) (by kernel_rfl) Tryz.underlying3}
end Go.Proofs
namespace Go.Proofs.YtafmbokfkbccaaaGreatDoor
open Go.ChangeShapes Go.WideShapes Go.ChangeAt Go.RowKit
theorem A9 {H:Type} {enc:TypeId×Value→H} {a:Assume} {C:Checked} {os:Os} {f:FuncId} {fn:Func} {s:ChangeSpec} {conds:List PathCond} {apart fresh handsOn again:Bool} {X:World→Array Value→Prop}
  (own:ownKnob C.prog.godebug=none) (started:os.Started) (noInit:C.prog.inits.idxOf? f=none) (hfn:C.prog.funcs[f]?=some fn)
  (witness:∃(w:World) (tape:Tape) (i:Input),w.os=os∧(w.forCall tape i).Shaped C.prog∧i.vars=[]∧Input.okWide C.prog (w.forCall tape i) .any w.heap.size f i∧
   ((s.pre enc C.prog fn conds apart (w.forCall tape i).memory i.args∧X (w.forCall tape i).memory i.args)∧sizedMet enc C.prog fn (OpenSpec.ofChange s) apart (w.forCall tape i).memory i.args)∧a.holds C.prog (lone (Frame.enter C.prog f i.args .normal) [] (w.forCall tape i)))
  (contract:∀(W:World) (base:Nat) (args:Array Value) (ds gs:List (DataW H)) (before:List MemPlace),
   (∀(j:Nat) t v,fn.params[j]?=some t→args[j]?=some v→Value.okWide C.prog W .any base t v)→
   DataW.Whole enc C.prog fn.params.toList s.vars apart W args.toList ds gs before→
   (DataW.weightsEach C.prog (fn.params.toList++s.plain.varTypes C.prog) (ds++gs)).all (· ≤reachBytes)=true→
   W.ShapedOpen C.prog→
   Calls C.prog f args W fun e W'=>∃v,e=.returned v∧s.post enc C.prog fn apart fresh handsOn again W args v W'):
  ReturnsInHanded a C os f .any (fun w args=>(s.pre enc C.prog fn conds apart w args∧X w args)∧sizedMet enc C.prog fn (OpenSpec.ofChange s) apart w args) (s.post enc C.prog fn apart fresh handsOn again):=by
 refine returnsInHanded_of_calls own started noInit witness ?_;intro w tape i _ hsh _ hok hpre hholds;obtain⟨_,_,_,fn',hfn',_,_,_,_,hval⟩:=hok;have e:fn'=fn:=Option.some.inj (hfn'.symm.trans hfn);subst e;obtain⟨⟨⟨ds,gs,before,hw,hc⟩,hx⟩,hz⟩:=hpre;have hw':=DataW.Whole.of_heap (w':=w.forCall tape i) (by rfl) hw;refine(contract (w.forCall tape i) w.heap.size i.args ds gs before hval hw' (hz.weights hw) hsh).mono fun e W' ⟨v,he,hp⟩=> ?_;subst he;exact ChangeSpec.post_blind hp
theorem LK (w:World) (h:w.ShapedOpen Tryz.prog):∃m,w.cell? ⟨1,0,none⟩=some (.int .i64 m):=Tryz.laysM145.s1_3 w h
def Jw:List (String×DataW Unit):=[("math/bits.deBruijn32tab",Rows.laid_math_bits_deBruijn32tab),("math/bits.deBruijn64tab",Rows.laid_math_bits_deBruijn64tab),("internal/strconv.uint64pow10",Rows.laid_internal_strconv_uint64pow10)]
set_option maxRecDepth 100000 in
theorem GR (os:Os) (args:Array Value):laidMetH Tryz.prog Jw ((World.doorLaid Tryz.prog 1000 os).forCall (fun _ _=>0) ⟨#[],args,[]⟩).memory:=
 laidMetH_of_parts3 (fuel:=8) (laidMet_of_run' 8 (by kernel_rfl) (by kernel_rfl)) (by kernel_rfl) (by kernel_rfl)
end Go.Proofs.YtafmbokfkbccaaaGreatDoor
namespace Go.Proofs.YtafmbokfkbccaaaGreatDoor
open Go.ChangeShapes Go.WideShapes
theorem GU {P:Program} {f:FuncId} {fn:Func} {s:ChangeSpec} {c:OpenClaim}
  (h1:c.wf (OpenSpec.ofChange s)=true) (h2:laidOutB P=true) (h3:mapsRowed P=true)
  (h4:fn.params.all (P.readableRec ·)=true) (h5:namedTie P c.named s.vars=true)
  (h6:((c.stops==[])&&(P.stops==[])&&(c.knobs==[])&&(P.stopKnobs==[]))=true)
  (h7:(c.inPlace==P.inPlace f)=true) (h8:(c.unfollowed==P.unfollowed f)=true) (h9:(c.recurses==P.recurses f)=true) (h10:(c.named==P.varsNamed f)=true)
  (h11:((c.maps==(fn.params.toList++s.plain.varTypes P).any (P.mapsRec ·))&&(c.ifaces==(fn.params.toList++s.plain.varTypes P).any (P.ifacesRec ·))&&(c.mapsOut==P.mapsAmong fn.resultTypes.toList))=true)
  (h12:((c.loops==(fn.params.toList++s.plain.varTypes P).any (P.loopsFrom ·))&&(c.wideKeys==(fn.params.toList++s.plain.varTypes P++fn.resultTypes.toList).any (P.wideKeysFrom ·)))=true)
  (h13:(s.vars.all (P.varReadable ·)&&fn.resultTypes.all (fun t=>P.readableRec t&&decide (t<P.types.size)))=true)
  (h14:((c.ifacesOut==fn.resultTypes.toList.any (P.ifacesRec ·))&&(c.loopsOut==fn.resultTypes.toList.any (P.loopsFrom ·)))=true)
  (h15:(c.plainKeys==P.plainKeys)=true) (h16:c.shortTexts.isNone=true) (h17:P.stopsHeard=true) (h18:P.mayEnter=true) (h19:(c.lifted==P.liftsFinal)=true) (h20:(P.make==some c.make)=true)
  (h21:((c.kinds==(if c.domain.isEmpty then[] else fn.params.toList.map fun t=>match P.underlying t with|some (.int k)=>some k|_=>none))&&(c.pinned==c.pinnedBy))=true)
  (h22:((c.veiled==(fn.params.toList++s.plain.varTypes P++fn.resultTypes.toList).any (P.veiledRec ·))&&c.veiledFits P fn.params.toList (fn.params.toList++s.plain.varTypes P++fn.resultTypes.toList))=true):
  joinedFacts P f fn s c=true:=by
 simp only[Bool.and_eq_true] at h6 h11 h12 h13 h14 h21 h22;obtain⟨⟨⟨a1,a2⟩,a3⟩,a4⟩:=h6;obtain⟨⟨b1,b2⟩,b3⟩:=h11;obtain⟨c1,c2⟩:=h12;obtain⟨d1,d2⟩:=h13;obtain⟨e1,e2⟩:=h14;obtain⟨f1,f2⟩:=h21;obtain⟨g1,g2⟩:=h22;unfold joinedFacts;simp only[Bool.and_eq_true]
 repeat' apply And.intro
 all_goals first|assumption|exact f1
end Go.Proofs.YtafmbokfkbccaaaGreatDoor
namespace Go.Proofs.YtafmbokfkbccaaaGreatDoor
open Go.ChangeShapes Go.WideShapes
theorem D8:mapsRowed Tryz.prog=true:=by kernel_rfl
theorem Ba:Tryz.prog.stopsHeard=true:=by kernel_rfl
theorem GV:Tryz.prog.mayEnter=true:=by kernel_rfl
theorem Oa:true=Tryz.prog.looks []:=by kernel_rfl
theorem LM:Tryz.prog.mainIs=some (true, "e76fd24520ba4795eb7a2cecdf2239fb7aed378c08519b991bb398be843b7320".toList):=by kernel_rfl
end Go.Proofs.YtafmbokfkbccaaaGreatDoor
