/- Exact: the card. -/
import Derived.Test.YtdhophglnhcjbaaGreatDoorP15
set_option linter.all false
set_option maxRecDepth 100000
set_option maxHeartbeats 40000000
open Go.Proofs.Tryz
namespace Go.Proofs.YtdhophglnhcjbaaGreatDoor
section
open Go.ChangeShapes Go.WideShapes Go.ChangeAt Go.WideMaps Go.WideElems Go.RowKit Cf
set_option maxRecDepth 100000
theorem c0k:false=Rows.exactUptoRow.goesBy prog:=by kernel_rfl
theorem c2L:Rows.exactUptoRow.wfByText (Rows.OpenSpec.upto Rows.exactSpec)=true:=by kernel_rfl
theorem b8w:prog.funcNamed "warden/wardenkeep.Exact" =some 8:=by kernel_rfl
theorem c2N:prog.wantsStandIn 44=false:=by kernel_rfl
theorem c2M:prog.wantsStandIn 9=false:=by kernel_rfl
theorem exact_card:Rows.ExactUptoCardSaid:=
 Claim7.holds_tied_plain_at .later [] _ _ _ _ exact_said (fun _ h=>by cases h) c2L (fun _ h=>by cases h) exactUpto_row_tie rfl ⟨rfl,rfl⟩ (by kernel_rfl) rfl
  (fun f fn hf hfn=>by
    obtain rfl:f=8:=Option.some.inj (b8w.symm.trans hf)|>.symm;obtain rfl:fn=Tryz.f8:=(Option.some.inj (func8.symm.trans hfn)).symm
    exact⟨by kernel_rfl,fun j t ht=>by
     rw[Tryz.params8]at ht;have ht:=Array.mem_of_getElem? ht;simp only[List.mem_toArray,List.mem_cons,List.not_mem_nil,or_false]at ht;rcases ht with rfl|rfl
     ·exact c2N
     ·exact c2M⟩)
  c0k
end
end Go.Proofs.YtdhophglnhcjbaaGreatDoor
