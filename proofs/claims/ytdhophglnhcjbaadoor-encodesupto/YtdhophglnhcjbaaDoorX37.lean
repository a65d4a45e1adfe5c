/-
  Encodes, whole: for every class whose values and letters are together at most 1048576 (counted each time they are reached), the program's Encode and the document's writer give one file and one error, and the class that was handed in, its spare room too, reads as it did. Under no other condition but that the table 'warden/classfile.shapes' starts as the program's text lays it, which the card ties to that text. How: one plain function tells what a writer of class files answers; the program's writer and the document's are each walked through and shown to answer what that function tells; then the copy that was handed in is compared.
-/
import Derived.Test.YtdhophglnhcjbaaDoorXH
import Derived.Deep.DeepHandedRow
import Derived.Lib.LaidTab
set_option linter.unusedVariables false
set_option linter.unusedSimpArgs false
namespace Go.Proofs.YtdhophglnhcjbaaDoor
open Go.ChangeShapes Go.WideShapes Go.ChangeAt Go.WideMaps Go.WideElems Go.RowKit Cf

theorem laid_out : laidOutB Tryd.prog = true := by kernel_rfl
theorem rec_cl : Tryd.prog.readableRec 25 = true := by kernel_rfl
theorem row_cl : 25 < Tryd.prog.types.size := by decide +kernel
/-- what was read reads so still, when memory has but grown -/
theorem reads_still {H : Type} {en : TypeId × Value → H} {W W' : World} {v : Value} {d : DataW H} {p : List MemPlace} (h : DataW.Trod en Tryd.prog W 0 (fun _ => true) true 25 v d p) (hg : W.grownBy W' none) (sp : Nat → Bool) (hs : ∀ x ∈ p, sp x.block = true) : DataW.Trod en Tryd.prog W' 0 sp true 25 v d p := by
  obtain ⟨n, hn⟩ := h
  refine ⟨n, DataW.trod_stays (kids_book laid_out rec_cl) (book_sized rec_cl) (fun h => by cases h) ⟨row_cl, book_self _⟩ hn (fun x hx => ?_) hs⟩
  have hlt := DataW.trod_lt _ _ _ _ hn x hx
  cases x with
  | cell b off => exact World.cell?_of_block (hg.block b hlt (by simp))
  | map b => exact hg.block b hlt (by simp)
set_option maxRecDepth 100000 in
theorem encodes_contract (H : Type) (en : TypeId × Value → H) (W : World) (base : Nat) (args : Array Value) (ds gs : List (DataW H)) (before : List MemPlace)
    (hval : ∀ (j : Nat) t v, Tryd.f3.params[j]? = some t → args[j]? = some v → Value.okWide Tryd.prog W .any base t v)
    (hW : DataW.Whole en Tryd.prog Tryd.f3.params.toList Rows.encodesSpec.vars false W args.toList ds gs before) (hL : laidMetH Tryd.prog Rows.encodesUptoRow.laid W) (hk : Rows.uptoSmall H (ds ++ gs) = true) :
    Calls Tryd.prog 3 args W fun e W' => ∃ v, e = .returned v ∧ Rows.encodesSpec.post en Tryd.prog Tryd.f3 false true false false W args v W' := by
  have hW' := hW
  obtain ⟨p, q, hA0, hV, rfl, hfz, hnd⟩ := hW
  have hA : DataW.TrodAll en Tryd.prog W 0 (fun _ => true) true Tryd.f3.params.toList args.toList ds p := hA0
  rw [Tryd.params3] at hA hval
  obtain ⟨v0, d0, rfl, rfl, h0⟩ := trodAll_one hA
  obtain ⟨rfl, rfl⟩ := trodVars_none hV
  have hk2 := of_decide_eq_true hk
  simp only [List.append_nil, Rows.uptoBulkAll, Nat.add_zero] at hk2
  obtain ⟨c, fa, ma, fk, mk, rfl, hok, hcost, hrf, hrm, hfn, hmn⟩ := open_class (hval 0 25 v0 rfl rfl) h0 hk2
  have hS : Hid (Shp W) := shp_of_laid hL
  refine (encodes_any W W.heap.size c fa ma fk mk (Nat.le_refl _) hok hcost hS hrf hrm hfn hmn).mono fun e W' ⟨he, hg⟩ => ?_
  subst he
  have e1 : Rows.encodesSpec.fn H ([d0] ++ []) = { results := [.lit (.bool true)], args := [d0] } := by simp [Rows.encodesSpec]
  refine ⟨_, rfl, _, _, _, [], p, [], hW', ?_, ?_, ?_, keptBut_of_grown hg _, fun h => by cases h⟩
  · rw [e1]; exact trodAll_mk1 (shut_bool Tryd.underlying4 true)
  · rw [e1]; exact trodAll_mk1 (reads_still h0 hg _ (fun x hx => by simpa using hW'.lt x (by simpa using hx)))
  · rw [e1]; rfl

theorem encodes_reads (os : Os) {H : Type} (en : TypeId × Value → H) : ∃ places, DataW.whole en Tryd.prog ((World.doorLaid Tryd.prog 2000 os).forCall (fun _ _ => 0) ⟨#[], #[.agg #[.string ⟨#[]⟩, .string ⟨#[]⟩, .slice none 0 0, .slice none 0 0]], []⟩).memory Tryd.f3.params.toList Rows.encodesSpec.vars false (#[.agg #[.string ⟨#[]⟩, .string ⟨#[]⟩, .slice none 0 0, .slice none 0 0]] : Array Value).toList 8 = some ([.agg [.lit (.string []), .lit (.string []), .nil, .nil]], [], places) :=
  ⟨[], by kernel_rfl⟩

set_option maxRecDepth 100000 in
theorem encodes_lifted (os : Os) (started : os.Started) (H : Type) (en : TypeId × Value → H) (F : Stop.Interp) :
    ReturnsInHanded {} Tryd.checked os 3 .any ((Rows.OpenSpec.upto Rows.encodesSpec).preRow en Tryd.prog Tryd.f3 Rows.encodesUptoRow.domain false Rows.encodesUptoRow.laid) (((Rows.OpenSpec.upto Rows.encodesSpec).at F).post en Tryd.prog Tryd.f3 false true false false) := by
  obtain ⟨places, hx⟩ := encodes_reads os en
  refine returnsInHanded_of_row (C := Tryd.checked) (s := Rows.OpenSpec.upto Rows.encodesSpec) own started (by kernel_rfl) Tryd.func3
    (witness_row_at (enc := en) (C := Tryd.checked) false (World.doorLaid Tryd.prog 2000 os) #[.agg #[.string ⟨#[]⟩, .string ⟨#[]⟩, .slice none 0 0, .slice none 0 0]] rfl (by kernel_rfl) (by kernel_rfl) (by kernel_rfl)
      (OpenSpec.preRow_of_cond 8 hx (by kernel_rfl) (fun k hk => by cases hk; kernel_rfl) (by kernel_rfl) (door_met os _))) ?_
  intro W base args ds gs before hval hW _ hcond _ hL _ _
  exact encodes_contract H en W base args ds gs before hval hW hL (hcond _ rfl)

theorem encodes_said : Rows.EncodesUptoSaid :=
  OpenClaim.holds_of_cond 3 Tryd.f3 rfl rfl rfl rfl rfl rfl rfl ⟨rfl, rfl, rfl, rfl, rfl⟩ rfl rfl rfl rfl rfl (by kernel_rfl) Tryd.func3 (by kernel_rfl)
    (of_decide_eq_true (by kernel_rfl)) (by unfold Func.isWrapper; first | (rw [if_pos (by decide +kernel)]; kernel_rfl) | (rw [if_neg (by decide +kernel)]; exact ⟨rfl, rfl⟩))
    (fun os started H en _ F => by rw [OpenClaim.pre_eq_preRow]; exact encodes_lifted os started H en F)

/-- ████ THE CARD ████ -/
theorem encodes_card : Rows.EncodesUptoCardSaid :=
  Claim7.holds_tied_plain_at .later [] _ _ _ _ encodes_said (fun _ h => by cases h) (by kernel_rfl) (fun _ h => by cases h) encodesUpto_row_tie rfl ⟨rfl, rfl⟩ (by kernel_rfl) rfl
    (fun f fn hf hfn => by
      obtain rfl : f = 3 := Option.some.inj ((show Tryd.prog.funcNamed "warden/wardenlaw.Encodes" = some 3 by kernel_rfl).symm.trans hf) |>.symm
      obtain rfl : fn = Tryd.f3 := (Option.some.inj (Tryd.func3.symm.trans hfn)).symm
      exact ⟨by kernel_rfl, fun j t ht => by
        rw [Tryd.params3] at ht
        obtain rfl : t = 25 := by simpa using Array.mem_of_getElem? ht
        exact (show Tryd.prog.wantsStandIn 25 = false by kernel_rfl)⟩)
    (by kernel_rfl)
#print axioms encodes_card
end Go.Proofs.YtdhophglnhcjbaaDoor
