/- P15: a part of the proof that the last text tells. -/
import Derived.Test.YtdhophglnhcjbaaGreatDoorRows
import Derived.ProofKit
import Derived.SevenTiedAt
import Derived.JoinedCond
set_option linter.all false
set_option maxRecDepth 100000
set_option maxHeartbeats 40000000
open Go.Proofs.Tryz
open Option renaming none→N,some→O
namespace Go.Proofs.YtdhophglnhcjbaaGreatDoor
section
open Go.RowKit
set_option maxRecDepth 100000
theorem c4Z:(Rows.checksUptoRow.wf (OpenSpec.ofChange (Rows.OpenSpec.upto Rows.checksSpec).bare))=true:=by kernel_rfl
theorem c4Y:(laidOutB prog)=true:=by kernel_rfl
theorem c4X:(mapsRowed prog)=true:=by kernel_rfl
theorem c4W:(Tryz.f4.params.all (prog.readableRec ·))=true:=by kernel_rfl
theorem c4V:(namedTie prog Rows.checksUptoRow.named (Rows.OpenSpec.upto Rows.checksSpec).bare.vars)=true:=by kernel_rfl
theorem c4U:((Rows.checksUptoRow.stops==[]))=true:=by kernel_rfl
theorem c4T:((prog.stops==[]))=true:=by kernel_rfl
theorem c4S:((Rows.checksUptoRow.knobs==[]))=true:=by kernel_rfl
theorem c4R:((prog.stopKnobs==[]))=true:=by kernel_rfl
theorem c4Q:((Rows.checksUptoRow.inPlace==prog.inPlace 4))=true:=by kernel_rfl
theorem c4s:((Rows.checksUptoRow.unfollowed==prog.unfollowed 4))=true:=by kernel_rfl
theorem c4r:((Rows.checksUptoRow.recurses==prog.recurses 4))=true:=by kernel_rfl
theorem c4q:((Rows.checksUptoRow.named==prog.varsNamed 4))=true:=by kernel_rfl
theorem c4p:((Rows.checksUptoRow.maps==(Tryz.f4.params.toList++(Rows.OpenSpec.upto Rows.checksSpec).bare.plain.varTypes prog).any (prog.mapsRec ·)))=true:=by kernel_rfl
theorem c4o:((Rows.checksUptoRow.ifaces==(Tryz.f4.params.toList++(Rows.OpenSpec.upto Rows.checksSpec).bare.plain.varTypes prog).any (prog.ifacesRec ·)))=true:=by kernel_rfl
theorem c4n:((Rows.checksUptoRow.mapsOut==prog.mapsAmong Tryz.f4.resultTypes.toList))=true:=by kernel_rfl
theorem c4m:((Rows.checksUptoRow.loops==(Tryz.f4.params.toList++(Rows.OpenSpec.upto Rows.checksSpec).bare.plain.varTypes prog).any (prog.loopsFrom ·)))=true:=by kernel_rfl
theorem c4l:((Rows.checksUptoRow.wideKeys==(Tryz.f4.params.toList++(Rows.OpenSpec.upto Rows.checksSpec).bare.plain.varTypes prog++Tryz.f4.resultTypes.toList).any (prog.wideKeysFrom ·)))=true:=by kernel_rfl
theorem c4k:((Rows.OpenSpec.upto Rows.checksSpec).bare.vars.all (prog.varReadable ·))=true:=by kernel_rfl
theorem c4j:(Tryz.f4.resultTypes.all (λt=>prog.readableRec t&&decide (t<prog.types.size)))=true:=by kernel_rfl
theorem c4i:((Rows.checksUptoRow.ifacesOut==Tryz.f4.resultTypes.toList.any (prog.ifacesRec ·)))=true:=by kernel_rfl
theorem c4h:((Rows.checksUptoRow.loopsOut==Tryz.f4.resultTypes.toList.any (prog.loopsFrom ·)))=true:=by kernel_rfl
theorem c4g:((Rows.checksUptoRow.plainKeys==prog.plainKeys))=true:=by kernel_rfl
theorem c4f:(Rows.checksUptoRow.shortTexts.isNone)=true:=by kernel_rfl
theorem c4e:(prog.stopsHeard)=true:=by kernel_rfl
theorem c4d:(prog.mayEnter)=true:=by kernel_rfl
theorem c4c:((Rows.checksUptoRow.lifted==prog.liftsFinal))=true:=by kernel_rfl
theorem c4b:((prog.make==O Rows.checksUptoRow.make))=true:=by kernel_rfl
theorem c4a:((Rows.checksUptoRow.kinds==(if Rows.checksUptoRow.domain.isEmpty then []else Tryz.f4.params.toList.map λt=>match prog.underlying t with|some (.int k)=>O k|_=>N)))=true:=by kernel_rfl
theorem c3Z:((Rows.checksUptoRow.pinned==Rows.checksUptoRow.pinnedBy))=true:=by kernel_rfl
theorem c3Y:((Rows.checksUptoRow.veiled==(Tryz.f4.params.toList++(Rows.OpenSpec.upto Rows.checksSpec).bare.plain.varTypes prog++Tryz.f4.resultTypes.toList).any (prog.veiledRec ·)))=true:=by kernel_rfl
theorem c3X:(Rows.checksUptoRow.veiledFits prog Tryz.f4.params.toList (Tryz.f4.params.toList++(Rows.OpenSpec.upto Rows.checksSpec).bare.plain.varTypes prog++Tryz.f4.resultTypes.toList))=true:=by kernel_rfl
theorem T0{a b:Bool}(h:a=true)(k:b=true):(a&&b)=true:=by rw[h,k];rfl
theorem b5w:joinedFacts prog 4 Tryz.f4 (Rows.OpenSpec.upto Rows.checksSpec).bare Rows.checksUptoRow=true:=(T0 (T0 (T0 (T0 (T0 (T0 (T0 (T0 (T0 (T0 (T0 (T0 (T0 (T0 (T0 (T0 (T0 (T0 (T0 (T0 (T0 (T0 (T0 (T0 (T0 (T0 (T0 (T0 (T0 (T0 (T0 c4Z c4Y) c4X) c4W) c4V) c4U) c4T) c4S) c4R) c4Q) c4s) c4r) c4q) c4p) c4o) c4n) c4m) c4l) c4k) c4j) c4i) c4h) c4g) c4f) c4e) c4d) c4c) c4b) c4a) c3Z) c3Y) c3X)
end
end Go.Proofs.YtdhophglnhcjbaaGreatDoor
