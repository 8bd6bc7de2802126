import Derived.Test.YtaallngooaaonaaGreatDoorJT6
import Derived.Test.YtaallngooaaonaaGreatDoorJT43
import Derived.Test.YtaallngooaaonaaGreatDoorRows
import Derived.HandedShaped
import Derived.LaidHandle
import Derived.LaidLaws
import Derived.LaidMore
import Derived.JoinedOf
import Derived.Test.YtaallngooaaonaaGreatDoorCards
import Derived.SevenTiedAt
open Go.ChangeShapes Go.WideShapes Go.ChangeAt Go.RowKit
set_option maxRecDepth 100000
namespace Go.Proofs.YtaallngooaaonaaGreatDoor
def ZK:List (String×DataW Unit):=[("math/bits.deBruijn32tab",Rows.laid_math_bits_deBruijn32tab),("math/bits.deBruijn64tab",Rows.laid_math_bits_deBruijn64tab),("internal/strconv.uint64pow10",Rows.laid_internal_strconv_uint64pow10)]
theorem J3 {P:Program} {f:FuncId} {fn:Func} {s:ChangeSpec} {c:OpenClaim}
  (h1:c.wf (OpenSpec.ofChange s)=true) (h2:laidOutB P=true) (h3:mapsRowed P=true)
  (h4:fn.params.all (P.readableRec ·)=true) (h5:namedTie P c.named s.vars=true)
  (h6:((c.stops==[])&&(P.stops==[])&&(c.knobs==[])&&(P.stopKnobs==[]))=true)
  (h7:(c.inPlace==P.inPlace f)=true) (h8:(c.unfollowed==P.unfollowed f)=true) (h9:(c.recurses==P.recurses f)=true) (h10:(c.named==P.varsNamed f)=true)
  (h11:((c.maps==(fn.params.toList++s.plain.varTypes P).any (P.mapsRec ·))&&(c.ifaces==(fn.params.toList++s.plain.varTypes P).any (P.ifacesRec ·))&&(c.mapsOut==P.mapsAmong fn.resultTypes.toList))=true)
  (h12:((c.loops==(fn.params.toList++s.plain.varTypes P).any (P.loopsFrom ·))&&(c.wideKeys==(fn.params.toList++s.plain.varTypes P++fn.resultTypes.toList).any (P.wideKeysFrom ·)))=true)
  (h13:(s.vars.all (P.varReadable ·)&&fn.resultTypes.all (fun t=>P.readableRec t&&decide (t<P.types.size)))=true)
  (h14:((c.ifacesOut==fn.resultTypes.toList.any (P.ifacesRec ·))&&(c.loopsOut==fn.resultTypes.toList.any (P.loopsFrom ·)))=true)
  (h15:(c.plainKeys==P.plainKeys)=true) (h16:c.shortTexts.isNone=true) (h17:P.stopsHeard=true) (h18:P.mayEnter=true) (h19:(c.lifted==P.liftsFinal)=true) (h20:(P.make==some c.make)=true)
  (h21:((c.kinds==(if c.domain.isEmpty then[] else fn.params.toList.map fun t=>match P.underlying t with|some (.int k)=>some k|_=>none))&&(c.pinned==c.pinnedBy))=true)
  (h22:((c.veiled==(fn.params.toList++s.plain.varTypes P++fn.resultTypes.toList).any (P.veiledRec ·))&&c.veiledFits P fn.params.toList (fn.params.toList++s.plain.varTypes P++fn.resultTypes.toList))=true):
  joinedFacts P f fn s c=true:=by
 simp only[Bool.and_eq_true] at h6 h11 h12 h13 h14 h21 h22;obtain⟨⟨⟨a1,a2⟩,a3⟩,a4⟩:=h6;obtain⟨⟨b1,b2⟩,b3⟩:=h11;obtain⟨c1,c2⟩:=h12;obtain⟨d1,d2⟩:=h13;obtain⟨e1,e2⟩:=h14;obtain⟨f1,f2⟩:=h21;obtain⟨g1,g2⟩:=h22;unfold joinedFacts;simp only[Bool.and_eq_true]
 repeat' apply And.intro
 all_goals first|assumption|exact f1
theorem Gi:mapsRowed Tryz.prog=true:=by kernel_rfl
theorem C8:Tryz.prog.stopsHeard=true:=by kernel_rfl
theorem J4:Tryz.prog.mayEnter=true:=by kernel_rfl
theorem RS:false=Tryz.prog.looks []:=by kernel_rfl
theorem Pd:Tryz.prog.mainIs=some (true, "3da6296230f9edefd5728d5248f4159ce08fbc5be9be1946e56f3d1e588ea1c0".toList):=by kernel_rfl
end Go.Proofs.YtaallngooaaonaaGreatDoor
