/- P15: a part of the proof that the last text tells. -/
import Derived.Test.YtdhophglnhcjbaaGreatDoorP13
import Derived.Test.YtdhophglnhcjbaaGreatDoorP14
import Derived.Test.YtdhophglnhcjbaaGreatDoorCards
import Derived.Test.YtdhophglnhcjbaaGreatDoorTie
set_option linter.all false
set_option maxRecDepth 100000
set_option maxHeartbeats 40000000
open Go.Proofs.Tryz
namespace Go.Proofs.YtdhophglnhcjbaaGreatDoor
section
open Go.ChangeShapes Go.WideShapes Go.ChangeAt Go.WideMaps Go.WideElems Go.RowKit Cf
theorem b4v(H:Type)(en:TypeId×Value→H)(W:World)(base:Nat)(args:Array Value)(ds gs:List (DataW H))(before:List MemPlace)
 (hval:∀(j:Nat) t v,Tryz.f8.params[j]? =some t→args[j]? =some v→Value.okWide prog W .any base t v)
 (hW:DataW.Whole en prog Tryz.f8.params.toList Rows.exactSpec.vars false W args.toList ds gs before) (hL:laidMetH prog a6i W) (hk:Rows.uptoSmall H (ds++gs)=true):
 Calls prog 8 args W fun e W'=>∃v,e= .returned v∧Rows.exactSpec.post en prog Tryz.f8 false true false false W args v W':=by
 have hW':=hW;obtain⟨p,q,hA0,hV,rfl,hfz,hnd⟩:=hW;have hA:DataW.TrodAll en prog W 0 (fun _=>true) true Tryz.f8.params.toList args.toList ds p:=hA0;rw[Tryz.params8]at hA hval;obtain⟨v0,v1,d0,d1,p0,p1,rfl,rfl,rfl,h0,h1⟩:=trodAll_two hA;obtain⟨rfl,rfl⟩:=trodVars_none hV;have hk2:=of_decide_eq_true hk;simp only[List.append_nil,Rows.uptoBulkAll,Nat.add_zero]at hk2;obtain⟨c,fa,ma,fk,mk,rfl,hok,hcost,hrf,hrm,-⟩:=b6H (hval 0 44 v0 rfl rfl) h0 (by omega);obtain⟨F,rfl,rfl,rfl,hF2⟩:=Go.ChangeMaps.open_string underlying9 (hval 1 9 v1 rfl rfl) h1;obtain⟨hS,hB,hT⟩:=b5x hL;refine(Kx.c4T W c fa ma fk mk F hF2 hok hcost hS (fun W2 hW2=>Kx.c4S W2 (hS.keep hW2 (by simp)) (hB.keep hW2) (hT.keep hW2)) hrf hrm).mono fun e W' ⟨he,hg⟩=> ?_
 subst he;have e1:Rows.exactSpec.fn H ([d0, .lit (.string F.data.toList)]++ [])={results:=[.lit (.bool true)],args:=[d0, .lit (.string F.data.toList)]}:=by simp[Rows.exactSpec]
 refine⟨_,rfl,_,_,_,[],p0++ [],[],hW',?_,?_,?_,b4i hg _,fun h=>by cases h⟩
 ·rw[e1];exact trodAll_mk1 (shut_bool underlying4 true)
 ·rw[e1];exact trodAll_mk2 (b5B c2c c1Z h0 hg _ (fun x hx=>by simpa using hW'.lt x (by simp[hx]))) (Go.ChangeMaps.shut_string underlying9 hF2)
 ·rw[e1];rfl
theorem b5Z(os:Os){H:Type}(en:TypeId×Value→H):∃places,DataW.whole en prog ((World.doorLaid prog 2000 os).forCall (fun _ _=>0) ⟨#[], #[.agg #[.string ⟨#[]⟩, .string ⟨#[]⟩, .slice none 0 0, .slice none 0 0], .string ⟨#[]⟩],[]⟩).memory Tryz.f8.params.toList Rows.exactSpec.vars false (#[.agg #[.string ⟨#[]⟩, .string ⟨#[]⟩, .slice none 0 0, .slice none 0 0], .string ⟨#[]⟩]:Array Value).toList 8=some ([.agg [.lit (.string []), .lit (.string []), .nil, .nil], .lit (.string [])],[],places):=
 ⟨[],by kernel_rfl⟩
theorem b5a(os:Os)(started:os.Started)(H:Type)(en:TypeId×Value→H)(F:Stop.Interp):
 ReturnsInHanded {} Tryz.checked os 8 .any ((Rows.OpenSpec.upto Rows.exactSpec).preRow en prog Tryz.f8 Rows.exactUptoRow.domain false Rows.exactUptoRow.laid) (((Rows.OpenSpec.upto Rows.exactSpec).at F).post en prog Tryz.f8 false true false false):=by
 obtain⟨places,hx⟩:=b5Z os en
 refine returnsInHanded_of_row (C:=Tryz.checked) (s:=Rows.OpenSpec.upto Rows.exactSpec) own started (by kernel_rfl) func8
  (witness_row_at (enc:=en) (C:=Tryz.checked) false (World.doorLaid prog 2000 os) #[.agg #[.string ⟨#[]⟩, .string ⟨#[]⟩, .slice none 0 0, .slice none 0 0], .string ⟨#[]⟩] rfl (by kernel_rfl) (by kernel_rfl) (by kernel_rfl)
    (OpenSpec.preRow_of_cond 8 hx (by kernel_rfl) (fun k hk=>by cases hk;kernel_rfl) (by kernel_rfl) (c0q os _))) ?_
 intro W base args ds gs before hval hW _ hcond _ hL _ _;exact b4v H en W base args ds gs before hval hW hL (hcond _ rfl)
theorem exact_said:Rows.ExactUptoSaid:=
 OpenClaim.holds_of_cond 8 Tryz.f8 rfl rfl rfl rfl rfl rfl rfl ⟨rfl,rfl,rfl,rfl,rfl⟩ rfl rfl rfl rfl rfl (by kernel_rfl) func8 b5b
  (of_decide_eq_true (by kernel_rfl)) (by unfold Func.isWrapper;first|(rw[if_pos (by decide+kernel)];kernel_rfl)|(rw[if_neg (by decide+kernel)];exact⟨rfl,rfl⟩))
  (fun os started H en _ F=>by rw[OpenClaim.pre_eq_preRow];exact b5a os started H en F)
end
end Go.Proofs.YtdhophglnhcjbaaGreatDoor
