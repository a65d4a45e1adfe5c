/-
  Decodes, whole: for every string, the program's Decode and the document's reader give one class, one error and one place. Under no condition but that the table 'warden/classfile.shapes' starts as the program's text lays it, which the card ties to that text. How: one plain function tells what a reader of class files answers; the program's reader (by panic and recover) and the document's reader (by an error that is kept) are each walked through and shown to answer what that function tells; then the two classes are compared.
-/
import Derived.Test.YtdhophglnhcjbaaDoorGG
import Derived.Test.YtdhophglnhcjbaaDoorCards
import Derived.Test.YtdhophglnhcjbaaDoorTie
import Derived.ProofKit
import Derived.LaidMore
import Derived.OpenShut
import Derived.Deep.Onto
import Derived.Stop.Joined
import Derived.SevenTiedAt
import Derived.ChangeMaps5
set_option linter.unusedVariables false
set_option linter.unusedSimpArgs false
namespace Go.Proofs.YtdhophglnhcjbaaDoor
open Go.ChangeShapes Go.WideShapes Go.ChangeAt Go.WideMaps Go.WideElems Go.RowKit Cf

theorem own : ownKnob Tryd.prog.godebug = none := by kernel_rfl
theorem gShapes : Tryd.prog.globalNamed "warden/classfile.shapes" = some 0 := by kernel_rfl
theorem tShapes : (Tryd.prog.globals[0]?).map (·.type) = some 114 := by kernel_rfl
theorem cShape : Tryd.prog.cellsOf 113 = 3 := by kernel_rfl
theorem cInt : Tryd.prog.cellsOf 3 = 1 := by kernel_rfl
theorem cBool : Tryd.prog.cellsOf 4 = 1 := by kernel_rfl
/-- the listed table, place by place -/
theorem shapes_eq : (Rows.laid_warden_classfile_shapes : DataW Unit) = .agg ((List.range 32).map fun i => .agg [.lit (.int .i64 (width i)), .lit (.bool (wantsC i)), .lit (.bool (wantsM i))]) := by kernel_rfl

theorem take_one {l : List Value} {i o : Nat} {v : Value} (ho : o < 3) (h : (((l.drop (i * 3)).take 3).drop o).take 1 = [v]) : l[i * 3 + o]? = some v := by
  have h1 := congrArg (fun m => m[0]?) h
  simpa [List.getElem?_take, List.getElem?_drop, ho] using h1
/-- the row's condition gives the readers' table -/
theorem shp_of_laid {W : World} (h : laidMetH Tryd.prog Rows.decodesRow.laid W) : Shp W := by
  rw [show Rows.decodesRow.laid = [("warden/classfile.shapes", Rows.laid_warden_classfile_shapes)] from rfl, MakeChecks.laidMetH_plain _ _ _ (by kernel_rfl)] at h
  obtain ⟨ps, ⟨g0, t0, cs0, f0, p0, q0, hg0, ht0, hv0, hd0, -⟩, -, -⟩ := h
  obtain rfl := Option.some.inj (gShapes.symm.trans hg0)
  obtain rfl := Option.some.inj (tShapes.symm.trans ht0)
  rw [shapes_eq] at hd0
  obtain ⟨xs, m, rfl, hx, hlen, hn, hel⟩ := DataW.trod_array Tryd.underlying114 hd0
  simp only [Prod.mk.injEq, DataW.agg.injEq] at hx
  have key : ∀ op, op < 32 → W.cell? ⟨0, op * 3, none⟩ = some (.int .i64 (width op)) ∧ W.cell? ⟨0, op * 3 + 1, none⟩ = some (.bool (wantsC op)) ∧ W.cell? ⟨0, op * 3 + 2, none⟩ = some (.bool (wantsM op)) := by
    intro op ho
    have h1 := hel op ho
    have hxo : (xs.map (·.1))[op]? = some (.agg [.lit (.int .i64 (width op)), .lit (.bool (wantsC op)), .lit (.bool (wantsM op))]) := by
      rw [← hx.1]; simp [ho]
    simp only [List.getElem?_map, Option.map_eq_some_iff] at hxo
    obtain ⟨x, hx1, hx2⟩ := hxo
    rw [hx1, cShape] at h1
    obtain ⟨ys, m2, rfl, hy, -, hyn, hyf⟩ := DataW.trod_struct Tryd.underlying113 h1
    rw [hy] at hx2
    simp only [DataW.agg.injEq] at hx2
    have a0 := hyf 0 _ rfl
    have a1 := hyf 1 _ rfl
    have a2 := hyf 2 _ rfl
    match ys, hx2, a0, a1, a2 with
    | [y0, y1, y2], hx2, a0, a1, a2 =>
      simp only [List.map_cons, List.map_nil, List.cons.injEq, and_true] at hx2
      obtain ⟨n, e0, e0', -⟩ := DataW.trod_int Tryd.underlying3 (show DataW.trod _ Tryd.prog W 0 _ _ m2 3 _ = some y0 from a0)
      obtain ⟨b1, e1, e1'⟩ := DataW.trod_bool Tryd.underlying4 (show DataW.trod _ Tryd.prog W 0 _ _ m2 4 _ = some y1 from a1)
      obtain ⟨b2, e2, e2'⟩ := DataW.trod_bool Tryd.underlying4 (show DataW.trod _ Tryd.prog W 0 _ _ m2 4 _ = some y2 from a2)
      rw [e0', e1', e2'] at hx2
      simp only [DataW.lit.injEq, Lit.int.injEq, true_and, Lit.bool.injEq] at hx2
      obtain ⟨rfl, rfl, rfl⟩ := hx2
      have r0 : List.take (Tryd.prog.cellsOf 3) (List.drop 0 (List.take 3 (List.drop (op * 3) cs0.toList))) = [.int .i64 (width op)] := e0
      have r1 : List.take (Tryd.prog.cellsOf 4) (List.drop 1 (List.take 3 (List.drop (op * 3) cs0.toList))) = [.bool (wantsC op)] := e1
      have r2 : List.take (Tryd.prog.cellsOf 4) (List.drop 2 (List.take 3 (List.drop (op * 3) cs0.toList))) = [.bool (wantsM op)] := e2
      rw [cInt] at r0
      rw [cBool] at r1 r2
      exact ⟨(World.var?_cell gShapes hv0 _).trans (by simpa using take_one (by decide) r0), (World.var?_cell gShapes hv0 _).trans (by simpa using take_one (by decide) r1), (World.var?_cell gShapes hv0 _).trans (by simpa using take_one (by decide) r2)⟩
  refine ⟨World.block_lt_of_cell? _ ⟨0, 0, none⟩ (by simpa using (key 0 (by decide)).1), key⟩

/-- The door's own heap meets the condition. -/
theorem door_met (os : Os) (args : Array Value) : laidMetH Tryd.prog Rows.decodesRow.laid ((World.doorLaid Tryd.prog 2000 os).forCall (fun _ _ => 0) ⟨#[], args, []⟩).memory := by
  rw [show Rows.decodesRow.laid = [("warden/classfile.shapes", Rows.laid_warden_classfile_shapes)] from rfl, MakeChecks.laidMetH_plain _ _ _ (by kernel_rfl)]
  exact laidMet_of_run' 8 (by kernel_rfl) (by kernel_rfl)

theorem keptBut_of_grown {w w' : World} (h : w.grownBy w' none) (may : MemPlace → Prop) : w.keptBut w' may :=
  World.keptBut.congr (World.keptBut_refl w _) h.os h.output (fun i hi => h.block i hi (by simp))

set_option maxRecDepth 100000 in
theorem decodes_lifted (os : Os) (started : os.Started) (H : Type) (enc : TypeId × Value → H) :
    ReturnsInHanded {} Tryd.checked os 4 .any (fun w args => (Rows.decodesSpec.pre enc Tryd.prog Tryd.f4 [] false w args ∧ laidMetH Tryd.prog Rows.decodesRow.laid w) ∧ sizedMet enc Tryd.prog Tryd.f4 (OpenSpec.ofChange Rows.decodesSpec) false w args)
      (Rows.decodesSpec.post enc Tryd.prog Tryd.f4 false true false false) := by
  refine returnsInHanded_of_change_and (C := Tryd.checked) (X := fun w _ => laidMetH Tryd.prog Rows.decodesRow.laid w) (fun _ _ _ hh h => h.of_heap hh) own started (by kernel_rfl) Tryd.func4
    (ChangeSpec.witness_shaped (enc := enc) (C := Tryd.checked) (os := os) (X := fun w _ => laidMetH Tryd.prog Rows.decodesRow.laid w) false (World.doorLaid Tryd.prog 2000 os) #[.string ⟨#[]⟩] 8 rfl (World.shaped_of_RefB (by kernel_rfl) (by kernel_rfl)) (by kernel_rfl) (by kernel_rfl) (by kernel_rfl) (door_met os _)) ?_
  intro W base args ds gs before hval0 hW _ _ hL _
  have hval : ∀ (j : Nat) t v, Tryd.f4.params[j]? = some t → args[j]? = some v → Value.okWide Tryd.prog W .any base t v := hval0
  have hW' := hW
  obtain ⟨p, q, hA0, hV, rfl, hfz, hnd⟩ := hW
  have hA : DataW.TrodAll enc Tryd.prog W 0 (fun _ => true) true Tryd.f4.params.toList args.toList ds p := hA0
  rw [Tryd.params4] at hA hval
  obtain ⟨v0, d0, rfl, rfl, h0⟩ := trodAll_one hA
  obtain ⟨rfl, rfl⟩ := trodVars_none hV
  obtain ⟨s, rfl, rfl, rfl, hs⟩ := Go.ChangeMaps.open_string Tryd.underlying9 (hval 0 9 v0 rfl rfl) h0
  have hS : Hid (Shp W) := shp_of_laid hL
  have e1 : Rows.decodesSpec.fn H ([.lit (.string s.data.toList)] ++ []) = { results := [.lit (.bool true)], args := [.lit (.string s.data.toList)] } := by simp [Rows.decodesSpec]
  refine (decodes_any W s hs hS).mono fun e W' ⟨he, hw⟩ => ?_
  subst he
  refine ⟨_, rfl, _, _, _, [], [], [], hW', ?_, ?_, ?_, keptBut_of_grown hw _, fun h => by cases h⟩
  · rw [e1]; exact trodAll_mk1 (shut_bool Tryd.underlying4 true)
  · rw [e1]; exact trodAll_mk1 (Go.ChangeMaps.shut_string Tryd.underlying9 hs)
  · rw [e1]; rfl

theorem decodes_said : Rows.DecodesSaid :=
  OpenClaim.holds_of_wide 4 Tryd.f4 rfl rfl rfl rfl rfl rfl rfl ⟨rfl, rfl, rfl, rfl, rfl⟩ rfl rfl rfl rfl rfl (by kernel_rfl) Tryd.func4 (by kernel_rfl)
    (of_decide_eq_true (by kernel_rfl)) (by unfold Func.isWrapper; first | (rw [if_pos (by decide +kernel)]; kernel_rfl) | (rw [if_neg (by decide +kernel)]; exact ⟨rfl, rfl⟩))
    (fun os started H enc _ => decodes_lifted os started H enc)

/-- ████ THE CARD ████ -/
theorem decodes_card : Rows.DecodesCardSaid :=
  Claim7.holds_tied_plain_at .later [] _ _ _ _ decodes_said (fun _ h => by cases h) (by kernel_rfl) (fun _ h => by cases h) decodes_row_tie rfl ⟨rfl, rfl⟩ (by kernel_rfl) rfl
    (fun f fn hf hfn => by
      obtain rfl : f = 4 := Option.some.inj ((show Tryd.prog.funcNamed "warden/wardenlaw.Decodes" = some 4 by kernel_rfl).symm.trans hf) |>.symm
      obtain rfl : fn = Tryd.f4 := (Option.some.inj (Tryd.func4.symm.trans hfn)).symm
      exact ⟨by kernel_rfl, fun j t ht => by
        rw [Tryd.params4] at ht
        obtain rfl : t = 9 := by simpa using Array.mem_of_getElem? ht
        exact (show Tryd.prog.wantsStandIn 9 = false by kernel_rfl)⟩)
    (by kernel_rfl)
#print axioms decodes_card
end Go.Proofs.YtdhophglnhcjbaaDoor
