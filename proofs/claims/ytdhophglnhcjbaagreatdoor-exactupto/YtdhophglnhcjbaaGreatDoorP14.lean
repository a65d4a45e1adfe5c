/- P14: a part of the proof that the last text tells. -/
import Derived.Test.YtdhophglnhcjbaaGreatDoorRows
import Derived.ProofKit
import Derived.SevenTiedAt
import Derived.JoinedCond
set_option linter.all false
set_option maxRecDepth 100000
set_option maxHeartbeats 40000000
open Go.Proofs.Tryz
namespace Go.Proofs.YtdhophglnhcjbaaGreatDoor
section
open Go.RowKit
set_option maxRecDepth 100000
theorem c4A:(Rows.exactUptoRow.wf (OpenSpec.ofChange (Rows.OpenSpec.upto Rows.exactSpec).bare))=true:=by kernel_rfl
theorem c4z:(laidOutB prog)=true:=by kernel_rfl
theorem c4y:(mapsRowed prog)=true:=by kernel_rfl
theorem c4x:(Tryz.f8.params.all (prog.readableRec ·))=true:=by kernel_rfl
theorem c4w:(namedTie prog Rows.exactUptoRow.named (Rows.OpenSpec.upto Rows.exactSpec).bare.vars)=true:=by kernel_rfl
theorem c4v:((Rows.exactUptoRow.stops==[]))=true:=by kernel_rfl
theorem c4u:((prog.stops==[]))=true:=by kernel_rfl
theorem c4t:((Rows.exactUptoRow.knobs==[]))=true:=by kernel_rfl
theorem c4s:((prog.stopKnobs==[]))=true:=by kernel_rfl
theorem c4r:((Rows.exactUptoRow.inPlace==prog.inPlace 8))=true:=by kernel_rfl
theorem c3Q:((Rows.exactUptoRow.unfollowed==prog.unfollowed 8))=true:=by kernel_rfl
theorem c3P:((Rows.exactUptoRow.recurses==prog.recurses 8))=true:=by kernel_rfl
theorem c3O:((Rows.exactUptoRow.named==prog.varsNamed 8))=true:=by kernel_rfl
theorem c3N:((Rows.exactUptoRow.maps==(Tryz.f8.params.toList++(Rows.OpenSpec.upto Rows.exactSpec).bare.plain.varTypes prog).any (prog.mapsRec ·)))=true:=by kernel_rfl
theorem c3M:((Rows.exactUptoRow.ifaces==(Tryz.f8.params.toList++(Rows.OpenSpec.upto Rows.exactSpec).bare.plain.varTypes prog).any (prog.ifacesRec ·)))=true:=by kernel_rfl
theorem c3L:((Rows.exactUptoRow.mapsOut==prog.mapsAmong Tryz.f8.resultTypes.toList))=true:=by kernel_rfl
theorem c3K:((Rows.exactUptoRow.loops==(Tryz.f8.params.toList++(Rows.OpenSpec.upto Rows.exactSpec).bare.plain.varTypes prog).any (prog.loopsFrom ·)))=true:=by kernel_rfl
theorem c3J:((Rows.exactUptoRow.wideKeys==(Tryz.f8.params.toList++(Rows.OpenSpec.upto Rows.exactSpec).bare.plain.varTypes prog++Tryz.f8.resultTypes.toList).any (prog.wideKeysFrom ·)))=true:=by kernel_rfl
theorem c3I:((Rows.OpenSpec.upto Rows.exactSpec).bare.vars.all (prog.varReadable ·))=true:=by kernel_rfl
theorem c3H:(Tryz.f8.resultTypes.all (fun t=>prog.readableRec t&&decide (t<prog.types.size)))=true:=by kernel_rfl
theorem c3G:((Rows.exactUptoRow.ifacesOut==Tryz.f8.resultTypes.toList.any (prog.ifacesRec ·)))=true:=by kernel_rfl
theorem c3F:((Rows.exactUptoRow.loopsOut==Tryz.f8.resultTypes.toList.any (prog.loopsFrom ·)))=true:=by kernel_rfl
theorem c3E:((Rows.exactUptoRow.plainKeys==prog.plainKeys))=true:=by kernel_rfl
theorem c3D:(Rows.exactUptoRow.shortTexts.isNone)=true:=by kernel_rfl
theorem c3C:(prog.stopsHeard)=true:=by kernel_rfl
theorem c3B:(prog.mayEnter)=true:=by kernel_rfl
theorem c3A:((Rows.exactUptoRow.lifted==prog.liftsFinal))=true:=by kernel_rfl
theorem c3z:((prog.make==some Rows.exactUptoRow.make))=true:=by kernel_rfl
theorem c3y:((Rows.exactUptoRow.kinds==(if Rows.exactUptoRow.domain.isEmpty then []else Tryz.f8.params.toList.map fun t=>match prog.underlying t with|some (.int k)=>some k|_=>none)))=true:=by kernel_rfl
theorem c3x:((Rows.exactUptoRow.pinned==Rows.exactUptoRow.pinnedBy))=true:=by kernel_rfl
theorem c3w:((Rows.exactUptoRow.veiled==(Tryz.f8.params.toList++(Rows.OpenSpec.upto Rows.exactSpec).bare.plain.varTypes prog++Tryz.f8.resultTypes.toList).any (prog.veiledRec ·)))=true:=by kernel_rfl
theorem c3v:(Rows.exactUptoRow.veiledFits prog Tryz.f8.params.toList (Tryz.f8.params.toList++(Rows.OpenSpec.upto Rows.exactSpec).bare.plain.varTypes prog++Tryz.f8.resultTypes.toList))=true:=by kernel_rfl
theorem N4{a b:Bool}(h:a=true)(k:b=true):(a&&b)=true:=by rw[h,k];rfl
theorem b5b:joinedFacts prog 8 Tryz.f8 (Rows.OpenSpec.upto Rows.exactSpec).bare Rows.exactUptoRow=true:=(N4 (N4 (N4 (N4 (N4 (N4 (N4 (N4 (N4 (N4 (N4 (N4 (N4 (N4 (N4 (N4 (N4 (N4 (N4 (N4 (N4 (N4 (N4 (N4 (N4 (N4 (N4 (N4 (N4 (N4 (N4 c4A c4z) c4y) c4x) c4w) c4v) c4u) c4t) c4s) c4r) c3Q) c3P) c3O) c3N) c3M) c3L) c3K) c3J) c3I) c3H) c3G) c3F) c3E) c3D) c3C) c3B) c3A) c3z) c3y) c3x) c3w) c3v)
end
end Go.Proofs.YtdhophglnhcjbaaGreatDoor
