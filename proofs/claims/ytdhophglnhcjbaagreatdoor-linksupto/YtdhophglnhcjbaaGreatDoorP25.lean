/- P25: a part of the proof that the last text tells. -/
import Derived.Test.YtdhophglnhcjbaaGreatDoorRows
import Derived.ProofKit
import Derived.SevenTiedAt
import Derived.JoinedCond
set_option linter.all false
namespace Go.Proofs.YtdhophglnhcjbaaGreatDoor
open Go.RowKit
set_option maxRecDepth 100000
theorem c0Z:(Rows.linksUptoRow.wf (OpenSpec.ofChange (Rows.OpenSpec.upto Rows.linksSpec).bare))=true:=by kernel_rfl
theorem c0Y:(laidOutB Tryz.prog)=true:=by kernel_rfl
theorem c0X:(mapsRowed Tryz.prog)=true:=by kernel_rfl
theorem c0W:(Tryz.f3.params.all (Tryz.prog.readableRec ·))=true:=by kernel_rfl
theorem c0V:(namedTie Tryz.prog Rows.linksUptoRow.named (Rows.OpenSpec.upto Rows.linksSpec).bare.vars)=true:=by kernel_rfl
theorem c0U:((Rows.linksUptoRow.stops==[]))=true:=by kernel_rfl
theorem c0T:((Tryz.prog.stops==[]))=true:=by kernel_rfl
theorem c0S:((Rows.linksUptoRow.knobs==[]))=true:=by kernel_rfl
theorem c0R:((Tryz.prog.stopKnobs==[]))=true:=by kernel_rfl
theorem c0Q:((Rows.linksUptoRow.inPlace==Tryz.prog.inPlace 3))=true:=by kernel_rfl
theorem c0k:((Rows.linksUptoRow.unfollowed==Tryz.prog.unfollowed 3))=true:=by kernel_rfl
theorem c0j:((Rows.linksUptoRow.recurses==Tryz.prog.recurses 3))=true:=by kernel_rfl
theorem c0i:((Rows.linksUptoRow.named==Tryz.prog.varsNamed 3))=true:=by kernel_rfl
theorem c0h:((Rows.linksUptoRow.maps==(Tryz.f3.params.toList++(Rows.OpenSpec.upto Rows.linksSpec).bare.plain.varTypes Tryz.prog).any (Tryz.prog.mapsRec ·)))=true:=by kernel_rfl
theorem c0g:((Rows.linksUptoRow.ifaces==(Tryz.f3.params.toList++(Rows.OpenSpec.upto Rows.linksSpec).bare.plain.varTypes Tryz.prog).any (Tryz.prog.ifacesRec ·)))=true:=by kernel_rfl
theorem c0f:((Rows.linksUptoRow.mapsOut==Tryz.prog.mapsAmong Tryz.f3.resultTypes.toList))=true:=by kernel_rfl
theorem c0e:((Rows.linksUptoRow.loops==(Tryz.f3.params.toList++(Rows.OpenSpec.upto Rows.linksSpec).bare.plain.varTypes Tryz.prog).any (Tryz.prog.loopsFrom ·)))=true:=by kernel_rfl
theorem c0d:((Rows.linksUptoRow.wideKeys==(Tryz.f3.params.toList++(Rows.OpenSpec.upto Rows.linksSpec).bare.plain.varTypes Tryz.prog++Tryz.f3.resultTypes.toList).any (Tryz.prog.wideKeysFrom ·)))=true:=by kernel_rfl
theorem c0c:((Rows.OpenSpec.upto Rows.linksSpec).bare.vars.all (Tryz.prog.varReadable ·))=true:=by kernel_rfl
theorem c0b:(Tryz.f3.resultTypes.all (fun t=>Tryz.prog.readableRec t&&decide (t<Tryz.prog.types.size)))=true:=by kernel_rfl
theorem b9Z:((Rows.linksUptoRow.ifacesOut==Tryz.f3.resultTypes.toList.any (Tryz.prog.ifacesRec ·)))=true:=by kernel_rfl
theorem b9Y:((Rows.linksUptoRow.loopsOut==Tryz.f3.resultTypes.toList.any (Tryz.prog.loopsFrom ·)))=true:=by kernel_rfl
theorem b9X:((Rows.linksUptoRow.plainKeys==Tryz.prog.plainKeys))=true:=by kernel_rfl
theorem b9W:(Rows.linksUptoRow.shortTexts.isNone)=true:=by kernel_rfl
theorem b9V:(Tryz.prog.stopsHeard)=true:=by kernel_rfl
theorem b9U:(Tryz.prog.mayEnter)=true:=by kernel_rfl
theorem b9T:((Rows.linksUptoRow.lifted==Tryz.prog.liftsFinal))=true:=by kernel_rfl
theorem b9S:((Tryz.prog.make==some Rows.linksUptoRow.make))=true:=by kernel_rfl
theorem b9R:((Rows.linksUptoRow.kinds==(if Rows.linksUptoRow.domain.isEmpty then []else Tryz.f3.params.toList.map fun t=>match Tryz.prog.underlying t with|some (.int k)=>some k|_=>none)))=true:=by kernel_rfl
theorem b9Q:((Rows.linksUptoRow.pinned==Rows.linksUptoRow.pinnedBy))=true:=by kernel_rfl
theorem b9P:((Rows.linksUptoRow.veiled==(Tryz.f3.params.toList++(Rows.OpenSpec.upto Rows.linksSpec).bare.plain.varTypes Tryz.prog++Tryz.f3.resultTypes.toList).any (Tryz.prog.veiledRec ·)))=true:=by kernel_rfl
theorem b9O:(Rows.linksUptoRow.veiledFits Tryz.prog Tryz.f3.params.toList (Tryz.f3.params.toList++(Rows.OpenSpec.upto Rows.linksSpec).bare.plain.varTypes Tryz.prog++Tryz.f3.resultTypes.toList))=true:=by kernel_rfl
theorem N7{a b:Bool}(h:a=true)(k:b=true):(a&&b)=true:=by rw[h,k];rfl
theorem b2N:joinedFacts Tryz.prog 3 Tryz.f3 (Rows.OpenSpec.upto Rows.linksSpec).bare Rows.linksUptoRow=true:=(N7 (N7 (N7 (N7 (N7 (N7 (N7 (N7 (N7 (N7 (N7 (N7 (N7 (N7 (N7 (N7 (N7 (N7 (N7 (N7 (N7 (N7 (N7 (N7 (N7 (N7 (N7 (N7 (N7 (N7 (N7 c0Z c0Y) c0X) c0W) c0V) c0U) c0T) c0S) c0R) c0Q) c0k) c0j) c0i) c0h) c0g) c0f) c0e) c0d) c0c) c0b) b9Z) b9Y) b9X) b9W) b9V) b9U) b9T) b9S) b9R) b9Q) b9P) b9O)
end Go.Proofs.YtdhophglnhcjbaaGreatDoor
