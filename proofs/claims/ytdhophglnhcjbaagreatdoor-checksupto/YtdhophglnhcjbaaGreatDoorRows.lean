/-
  NARROWER THAN 'FOR EVERY INPUT', by the rows' own cells (each row's printed sentence says how): Links: laid · Checks: laid · Typings: laid · Runs: laid · Fasts: laid · Exact: laid · Erased: laid · Conform: laid · Split: laid · Apart: laid.
  DERIVED. THE GIVEN ROWS OF THIS SEAT. 10 by the template 'for every input the law returns true; each argument reads behind the call as it read before'; 0 by the template 'total and deterministic' (their statements: YtdhophglnhcjbaaGreatDoorTotals.lean).
  GIVEN WITH THE SEED: the statements are not yours to turn. If you find one false, say at which input.
  Laid BY PROGRAM, IN A SANDBOX (cutbox-rows.mjs): the forced cells as the released guide's own fill.sh prints them over the translation b195e80a759e462d… (all of the seat's roots in one cut). By AI agents, Wed Nov 11 2026. No macro, syntax, notation, axiom, sorry.
-/
import Derived.Test.YtdhophglnhcjbaaGreatDoorChecked
import GoSem.Claim
import GoSem.ClaimJoined
import GoSem.ClaimMapViews
import Derived.JoinedTies
import Derived.KernelRfl
namespace Go.Proofs.YtdhophglnhcjbaaGreatDoor
/- THE CELL 'sum', in the pinned program and in every row, IS THE sha256 OF THE DUMP (.gsa) THAT YtdhophglnhcjbaaGreatDoorProg.lean LOADS. Nothing in Lean hashes anything: it is a label: what it is worth is what the hold of that sum in a sandbox is worth. -/
noncomputable def Tryz.pinned : Pinned := { name := "ytdhophglnhcjbaagreatdoor", sum := "b195e80a759e462d759c3deb7e105f399e84978bf9590c9349889f626074554a", checked := Tryz.checked }
namespace Rows
def none {H : Type} : Left H := { results := [], args := [] }

/- WHAT THE LISTED PACKAGE-LEVEL VARIABLES READ AS WHEN THE CALL BEGINS. Each datum BY PROGRAM (the guide's laid-datum.mjs) off the statement by which the dump's own 'gosem.cut.vars' lays the variable. In a bare row this is a premise. The card (YtdhophglnhcjbaaGreatDoorCards.lean) ties it to the program's text. -/
def laid_warden_classfile_shapes {H : Type} : DataW H := .agg [.agg [.lit (.int .i64 4), .lit (.bool false), .lit (.bool false)], .agg [.lit (.int .i64 0), .lit (.bool false), .lit (.bool false)], .agg [.lit (.int .i64 1), .lit (.bool false), .lit (.bool false)], .agg [.lit (.int .i64 1), .lit (.bool false), .lit (.bool false)], .agg [.lit (.int .i64 0), .lit (.bool false), .lit (.bool false)], .agg [.lit (.int .i64 0), .lit (.bool false), .lit (.bool false)], .agg [.lit (.int .i64 0), .lit (.bool false), .lit (.bool false)], .agg [.lit (.int .i64 0), .lit (.bool false), .lit (.bool false)], .agg [.lit (.int .i64 0), .lit (.bool false), .lit (.bool false)], .agg [.lit (.int .i64 0), .lit (.bool false), .lit (.bool false)], .agg [.lit (.int .i64 0), .lit (.bool false), .lit (.bool false)], .agg [.lit (.int .i64 0), .lit (.bool false), .lit (.bool false)], .agg [.lit (.int .i64 2), .lit (.bool false), .lit (.bool false)], .agg [.lit (.int .i64 2), .lit (.bool false), .lit (.bool false)], .agg [.lit (.int .i64 2), .lit (.bool false), .lit (.bool false)], .agg [.lit (.int .i64 2), .lit (.bool false), .lit (.bool false)], .agg [.lit (.int .i64 0), .lit (.bool true), .lit (.bool false)], .agg [.lit (.int .i64 0), .lit (.bool true), .lit (.bool true)], .agg [.lit (.int .i64 0), .lit (.bool true), .lit (.bool true)], .agg [.lit (.int .i64 0), .lit (.bool true), .lit (.bool true)], .agg [.lit (.int .i64 0), .lit (.bool false), .lit (.bool false)], .agg [.lit (.int .i64 0), .lit (.bool false), .lit (.bool false)], .agg [.lit (.int .i64 0), .lit (.bool true), .lit (.bool false)], .agg [.lit (.int .i64 0), .lit (.bool false), .lit (.bool false)], .agg [.lit (.int .i64 0), .lit (.bool false), .lit (.bool false)], .agg [.lit (.int .i64 0), .lit (.bool false), .lit (.bool false)], .agg [.lit (.int .i64 0), .lit (.bool false), .lit (.bool false)], .agg [.lit (.int .i64 0), .lit (.bool false), .lit (.bool false)], .agg [.lit (.int .i64 0), .lit (.bool true), .lit (.bool false)], .agg [.lit (.int .i64 0), .lit (.bool true), .lit (.bool false)], .agg [.lit (.int .i64 0), .lit (.bool false), .lit (.bool false)], .agg [.lit (.int .i64 0), .lit (.bool false), .lit (.bool false)]]
def laid_warden_link_builtIn {H : Type} : DataW H := .agg [.agg [.lit (.string [79, 98, 106, 101, 99, 116]), .lit (.string [])], .agg [.lit (.string [84, 104, 114, 111, 119]), .lit (.string [79, 98, 106, 101, 99, 116])], .agg [.lit (.string [78, 105, 108]), .lit (.string [84, 104, 114, 111, 119])], .agg [.lit (.string [73, 110, 100, 101, 120]), .lit (.string [84, 104, 114, 111, 119])], .agg [.lit (.string [83, 105, 122, 101]), .lit (.string [84, 104, 114, 111, 119])], .agg [.lit (.string [67, 97, 115, 116]), .lit (.string [84, 104, 114, 111, 119])], .agg [.lit (.string [90, 101, 114, 111]), .lit (.string [84, 104, 114, 111, 119])], .agg [.lit (.string [77, 101, 109, 111, 114, 121]), .lit (.string [84, 104, 114, 111, 119])], .agg [.lit (.string [68, 101, 112, 116, 104]), .lit (.string [84, 104, 114, 111, 119])]]
def laid_warden_machine_thrownOfItself {H : Type} : DataW H := .agg [.lit (.string []), .lit (.string [78, 105, 108]), .lit (.string [73, 110, 100, 101, 120]), .lit (.string [83, 105, 122, 101]), .lit (.string [67, 97, 115, 116]), .lit (.string [90, 101, 114, 111]), .lit (.string [77, 101, 109, 111, 114, 121]), .lit (.string [68, 101, 112, 116, 104])]

/-- 'wardenlaw.Links': WHATEVER THE INPUT: true; the input reads as it did. -/
def linksSpec : ChangeSpec := { name := "links", fn := fun _ => fun
  | [d] => { results := [.lit (.bool true)], args := [d] }
  | _ => none }
def linksRow : OpenClaim := { program := "ytdhophglnhcjbaagreatdoor", sum := "b195e80a759e462d759c3deb7e105f399e84978bf9590c9349889f626074554a", func := "warden/wardenlaw.Links", spec := "links", unfollowed := true, recurses := true, named := ["warden/classfile.shapes", "warden/link.builtIn"], plainKeys := false, apart := false, laid := [("warden/classfile.shapes", laid_warden_classfile_shapes), ("warden/link.builtIn", laid_warden_link_builtIn)] }
def LinksSaid : Prop := linksRow.holds Tryz.pinned (OpenSpec.ofChange linksSpec)

/-- ITS FALSE NEIGHBOUR: 'it returns false'. Refute it at one input. -/
def linksWrong : ChangeSpec := { name := "links", fn := fun _ => fun
  | [d] => { results := [.lit (.bool false)], args := [d] }
  | _ => none }
def LinksWrongFalsely : Prop := linksRow.holds Tryz.pinned (OpenSpec.ofChange linksWrong)

/-- 'wardenlaw.Checks': WHATEVER THE INPUT: true; the input reads as it did. -/
def checksSpec : ChangeSpec := { name := "checks", fn := fun _ => fun
  | [d] => { results := [.lit (.bool true)], args := [d] }
  | _ => none }
def checksRow : OpenClaim := { program := "ytdhophglnhcjbaagreatdoor", sum := "b195e80a759e462d759c3deb7e105f399e84978bf9590c9349889f626074554a", func := "warden/wardenlaw.Checks", spec := "checks", unfollowed := true, recurses := true, named := ["warden/classfile.shapes", "warden/link.builtIn"], plainKeys := false, apart := false, laid := [("warden/classfile.shapes", laid_warden_classfile_shapes), ("warden/link.builtIn", laid_warden_link_builtIn)] }
def ChecksSaid : Prop := checksRow.holds Tryz.pinned (OpenSpec.ofChange checksSpec)

/-- ITS FALSE NEIGHBOUR: 'it returns false'. Refute it at one input. -/
def checksWrong : ChangeSpec := { name := "checks", fn := fun _ => fun
  | [d] => { results := [.lit (.bool false)], args := [d] }
  | _ => none }
def ChecksWrongFalsely : Prop := checksRow.holds Tryz.pinned (OpenSpec.ofChange checksWrong)

/-- 'wardenlaw.Typings': WHATEVER THE INPUT: true; the input reads as it did. -/
def typingsSpec : ChangeSpec := { name := "typings", fn := fun _ => fun
  | [d1, d2] => { results := [.lit (.bool true)], args := [d1, d2] }
  | _ => none }
def typingsRow : OpenClaim := { program := "ytdhophglnhcjbaagreatdoor", sum := "b195e80a759e462d759c3deb7e105f399e84978bf9590c9349889f626074554a", func := "warden/wardenlaw.Typings", spec := "typings", unfollowed := true, recurses := true, named := ["warden/classfile.shapes", "warden/link.builtIn"], plainKeys := false, apart := false, laid := [("warden/classfile.shapes", laid_warden_classfile_shapes), ("warden/link.builtIn", laid_warden_link_builtIn)] }
def TypingsSaid : Prop := typingsRow.holds Tryz.pinned (OpenSpec.ofChange typingsSpec)

/-- ITS FALSE NEIGHBOUR: 'it returns false'. Refute it at one input. -/
def typingsWrong : ChangeSpec := { name := "typings", fn := fun _ => fun
  | [d1, d2] => { results := [.lit (.bool false)], args := [d1, d2] }
  | _ => none }
def TypingsWrongFalsely : Prop := typingsRow.holds Tryz.pinned (OpenSpec.ofChange typingsWrong)

/-- 'wardenlaw.Runs': WHATEVER THE INPUT: true; the input reads as it did. -/
def runsSpec : ChangeSpec := { name := "runs", fn := fun _ => fun
  | [d1, d2, d3] => { results := [.lit (.bool true)], args := [d1, d2, d3] }
  | _ => none }
def runsRow : OpenClaim := { program := "ytdhophglnhcjbaagreatdoor", sum := "b195e80a759e462d759c3deb7e105f399e84978bf9590c9349889f626074554a", func := "warden/wardenlaw.Runs", spec := "runs", unfollowed := true, recurses := true, named := ["warden/classfile.shapes", "warden/link.builtIn", "warden/machine.thrownOfItself"], plainKeys := false, apart := false, laid := [("warden/classfile.shapes", laid_warden_classfile_shapes), ("warden/link.builtIn", laid_warden_link_builtIn), ("warden/machine.thrownOfItself", laid_warden_machine_thrownOfItself)] }
def RunsSaid : Prop := runsRow.holds Tryz.pinned (OpenSpec.ofChange runsSpec)

/-- ITS FALSE NEIGHBOUR: 'it returns false'. Refute it at one input. -/
def runsWrong : ChangeSpec := { name := "runs", fn := fun _ => fun
  | [d1, d2, d3] => { results := [.lit (.bool false)], args := [d1, d2, d3] }
  | _ => none }
def RunsWrongFalsely : Prop := runsRow.holds Tryz.pinned (OpenSpec.ofChange runsWrong)

/-- 'wardenlaw.Fasts': WHATEVER THE INPUT: true; the input reads as it did. -/
def fastsSpec : ChangeSpec := { name := "fasts", fn := fun _ => fun
  | [d1, d2, d3] => { results := [.lit (.bool true)], args := [d1, d2, d3] }
  | _ => none }
def fastsRow : OpenClaim := { program := "ytdhophglnhcjbaagreatdoor", sum := "b195e80a759e462d759c3deb7e105f399e84978bf9590c9349889f626074554a", func := "warden/wardenlaw.Fasts", spec := "fasts", unfollowed := true, recurses := true, named := ["warden/classfile.shapes", "warden/link.builtIn", "warden/machine.thrownOfItself"], plainKeys := false, apart := false, laid := [("warden/classfile.shapes", laid_warden_classfile_shapes), ("warden/link.builtIn", laid_warden_link_builtIn), ("warden/machine.thrownOfItself", laid_warden_machine_thrownOfItself)] }
def FastsSaid : Prop := fastsRow.holds Tryz.pinned (OpenSpec.ofChange fastsSpec)

/-- ITS FALSE NEIGHBOUR: 'it returns false'. Refute it at one input. -/
def fastsWrong : ChangeSpec := { name := "fasts", fn := fun _ => fun
  | [d1, d2, d3] => { results := [.lit (.bool false)], args := [d1, d2, d3] }
  | _ => none }
def FastsWrongFalsely : Prop := fastsRow.holds Tryz.pinned (OpenSpec.ofChange fastsWrong)

/-- 'wardenkeep.Exact': WHATEVER THE INPUT: true; the input reads as it did. -/
def exactSpec : ChangeSpec := { name := "exact", fn := fun _ => fun
  | [d1, d2] => { results := [.lit (.bool true)], args := [d1, d2] }
  | _ => none }
def exactRow : OpenClaim := { program := "ytdhophglnhcjbaagreatdoor", sum := "b195e80a759e462d759c3deb7e105f399e84978bf9590c9349889f626074554a", func := "warden/wardenkeep.Exact", spec := "exact", unfollowed := true, recurses := true, named := ["warden/classfile.shapes", "warden/link.builtIn", "warden/machine.thrownOfItself"], plainKeys := false, apart := false, laid := [("warden/classfile.shapes", laid_warden_classfile_shapes), ("warden/link.builtIn", laid_warden_link_builtIn), ("warden/machine.thrownOfItself", laid_warden_machine_thrownOfItself)] }
def ExactSaid : Prop := exactRow.holds Tryz.pinned (OpenSpec.ofChange exactSpec)

/-- ITS FALSE NEIGHBOUR: 'it returns false'. Refute it at one input. -/
def exactWrong : ChangeSpec := { name := "exact", fn := fun _ => fun
  | [d1, d2] => { results := [.lit (.bool false)], args := [d1, d2] }
  | _ => none }
def ExactWrongFalsely : Prop := exactRow.holds Tryz.pinned (OpenSpec.ofChange exactWrong)

/-- 'wardenkeep.Erased': WHATEVER THE INPUT: true; the input reads as it did. -/
def erasedSpec : ChangeSpec := { name := "erased", fn := fun _ => fun
  | [d1, d2, d3] => { results := [.lit (.bool true)], args := [d1, d2, d3] }
  | _ => none }
def erasedRow : OpenClaim := { program := "ytdhophglnhcjbaagreatdoor", sum := "b195e80a759e462d759c3deb7e105f399e84978bf9590c9349889f626074554a", func := "warden/wardenkeep.Erased", spec := "erased", unfollowed := true, recurses := true, named := ["warden/classfile.shapes", "warden/link.builtIn", "warden/machine.thrownOfItself"], plainKeys := false, apart := false, laid := [("warden/classfile.shapes", laid_warden_classfile_shapes), ("warden/link.builtIn", laid_warden_link_builtIn), ("warden/machine.thrownOfItself", laid_warden_machine_thrownOfItself)] }
def ErasedSaid : Prop := erasedRow.holds Tryz.pinned (OpenSpec.ofChange erasedSpec)

/-- ITS FALSE NEIGHBOUR: 'it returns false'. Refute it at one input. -/
def erasedWrong : ChangeSpec := { name := "erased", fn := fun _ => fun
  | [d1, d2, d3] => { results := [.lit (.bool false)], args := [d1, d2, d3] }
  | _ => none }
def ErasedWrongFalsely : Prop := erasedRow.holds Tryz.pinned (OpenSpec.ofChange erasedWrong)

/-- 'wardenkeep.Conform': WHATEVER THE INPUT: true; the input reads as it did. -/
def conformSpec : ChangeSpec := { name := "conform", fn := fun _ => fun
  | [d1, d2, d3] => { results := [.lit (.bool true)], args := [d1, d2, d3] }
  | _ => none }
def conformRow : OpenClaim := { program := "ytdhophglnhcjbaagreatdoor", sum := "b195e80a759e462d759c3deb7e105f399e84978bf9590c9349889f626074554a", func := "warden/wardenkeep.Conform", spec := "conform", unfollowed := true, recurses := true, named := ["warden/classfile.shapes", "warden/link.builtIn", "warden/machine.thrownOfItself"], plainKeys := false, apart := false, laid := [("warden/classfile.shapes", laid_warden_classfile_shapes), ("warden/link.builtIn", laid_warden_link_builtIn), ("warden/machine.thrownOfItself", laid_warden_machine_thrownOfItself)] }
def ConformSaid : Prop := conformRow.holds Tryz.pinned (OpenSpec.ofChange conformSpec)

/-- ITS FALSE NEIGHBOUR: 'it returns false'. Refute it at one input. -/
def conformWrong : ChangeSpec := { name := "conform", fn := fun _ => fun
  | [d1, d2, d3] => { results := [.lit (.bool false)], args := [d1, d2, d3] }
  | _ => none }
def ConformWrongFalsely : Prop := conformRow.holds Tryz.pinned (OpenSpec.ofChange conformWrong)

/-- 'wardenkeep.Split': WHATEVER THE INPUT: true; the input reads as it did. -/
def splitSpec : ChangeSpec := { name := "split", fn := fun _ => fun
  | [d1, d2, d3, d4, d5] => { results := [.lit (.bool true)], args := [d1, d2, d3, d4, d5] }
  | _ => none }
def splitRow : OpenClaim := { program := "ytdhophglnhcjbaagreatdoor", sum := "b195e80a759e462d759c3deb7e105f399e84978bf9590c9349889f626074554a", func := "warden/wardenkeep.Split", spec := "split", unfollowed := true, recurses := true, named := ["warden/classfile.shapes", "warden/link.builtIn", "warden/machine.thrownOfItself"], plainKeys := false, apart := false, laid := [("warden/classfile.shapes", laid_warden_classfile_shapes), ("warden/link.builtIn", laid_warden_link_builtIn), ("warden/machine.thrownOfItself", laid_warden_machine_thrownOfItself)] }
def SplitSaid : Prop := splitRow.holds Tryz.pinned (OpenSpec.ofChange splitSpec)

/-- ITS FALSE NEIGHBOUR: 'it returns false'. Refute it at one input. -/
def splitWrong : ChangeSpec := { name := "split", fn := fun _ => fun
  | [d1, d2, d3, d4, d5] => { results := [.lit (.bool false)], args := [d1, d2, d3, d4, d5] }
  | _ => none }
def SplitWrongFalsely : Prop := splitRow.holds Tryz.pinned (OpenSpec.ofChange splitWrong)

/-- 'wardenkeep.Apart': WHATEVER THE INPUT: true; the input reads as it did. -/
def apartSpec : ChangeSpec := { name := "apart", fn := fun _ => fun
  | [d1, d2, d3, d4, d5, d6] => { results := [.lit (.bool true)], args := [d1, d2, d3, d4, d5, d6] }
  | _ => none }
def apartRow : OpenClaim := { program := "ytdhophglnhcjbaagreatdoor", sum := "b195e80a759e462d759c3deb7e105f399e84978bf9590c9349889f626074554a", func := "warden/wardenkeep.Apart", spec := "apart", unfollowed := true, recurses := true, named := ["warden/classfile.shapes", "warden/link.builtIn", "warden/machine.thrownOfItself"], plainKeys := false, apart := false, laid := [("warden/classfile.shapes", laid_warden_classfile_shapes), ("warden/link.builtIn", laid_warden_link_builtIn), ("warden/machine.thrownOfItself", laid_warden_machine_thrownOfItself)] }
def ApartSaid : Prop := apartRow.holds Tryz.pinned (OpenSpec.ofChange apartSpec)

/-- ITS FALSE NEIGHBOUR: 'it returns false'. Refute it at one input. -/
def apartWrong : ChangeSpec := { name := "apart", fn := fun _ => fun
  | [d1, d2, d3, d4, d5, d6] => { results := [.lit (.bool false)], args := [d1, d2, d3, d4, d5, d6] }
  | _ => none }
def ApartWrongFalsely : Prop := apartRow.holds Tryz.pinned (OpenSpec.ofChange apartWrong)

/- THE SECOND FORM. 'bulk': how many values and letters a reading holds, each counted each time it is reached (what is shared counts as often as it is met; a slice's spare places count too). A statement '..UptoSaid' is the law's where the arguments, and the package variables that the reading takes, are together of bulk at most 1048576: NARROWER than '..Said'. Prove '..Said' where nothing that the law and all that it calls make is longer than what came in: it says more and counts as full. Else prove '..UptoSaid'. A law counts once. -/
mutual
def uptoBulk {H : Type} : DataW H → Nat
  | .lit (.string bytes) => bytes.length + 1
  | .lit _ => 1
  | .nil => 1
  | .ptr d => uptoBulk d + 1
  | .slice elems spare => uptoBulkAll elems + uptoBulkAll spare + 1
  | .agg parts => uptoBulkAll parts + 1
  | .iface _ d => uptoBulk d + 1
  | .map entries => uptoBulkEntries entries + 1
  | .held _ => 1
def uptoBulkAll {H : Type} : List (DataW H) → Nat
  | [] => 0
  | d :: r => uptoBulk d + uptoBulkAll r
def uptoBulkEntries {H : Type} : List (Lit × DataW H) → Nat
  | [] => 0
  | x :: r => uptoBulkEntry x + uptoBulkEntries r
def uptoBulkEntry {H : Type} : Lit × DataW H → Nat
  | (.string bytes, d) => bytes.length + uptoBulk d + 1
  | (_, d) => uptoBulk d + 1
 end
def uptoSmall : (H : Type) → List (DataW H) → Bool := fun _ ds => decide (uptoBulkAll ds ≤ 1048576)
def OpenSpec.upto (s : _root_.Go.ChangeSpec) : _root_.Go.OpenSpec := { _root_.Go.OpenSpec.ofChange s with cond := some uptoSmall }

/-- 'wardenlaw.Links', WHERE WHAT IT READS IS OF BULK AT MOST 1048576: true; the input reads as it did. -/
def linksUptoRow : OpenClaim := { program := "ytdhophglnhcjbaagreatdoor", sum := "b195e80a759e462d759c3deb7e105f399e84978bf9590c9349889f626074554a", func := "warden/wardenlaw.Links", spec := "links", unfollowed := true, recurses := true, named := ["warden/classfile.shapes", "warden/link.builtIn"], plainKeys := false, apart := false, laid := [("warden/classfile.shapes", laid_warden_classfile_shapes), ("warden/link.builtIn", laid_warden_link_builtIn)], narrowed := true }
def LinksUptoSaid : Prop := linksUptoRow.holds Tryz.pinned (OpenSpec.upto linksSpec)

/-- 'wardenlaw.Checks', WHERE WHAT IT READS IS OF BULK AT MOST 1048576: true; the input reads as it did. -/
def checksUptoRow : OpenClaim := { program := "ytdhophglnhcjbaagreatdoor", sum := "b195e80a759e462d759c3deb7e105f399e84978bf9590c9349889f626074554a", func := "warden/wardenlaw.Checks", spec := "checks", unfollowed := true, recurses := true, named := ["warden/classfile.shapes", "warden/link.builtIn"], plainKeys := false, apart := false, laid := [("warden/classfile.shapes", laid_warden_classfile_shapes), ("warden/link.builtIn", laid_warden_link_builtIn)], narrowed := true }
def ChecksUptoSaid : Prop := checksUptoRow.holds Tryz.pinned (OpenSpec.upto checksSpec)

/-- 'wardenlaw.Typings', WHERE WHAT IT READS IS OF BULK AT MOST 1048576: true; the input reads as it did. -/
def typingsUptoRow : OpenClaim := { program := "ytdhophglnhcjbaagreatdoor", sum := "b195e80a759e462d759c3deb7e105f399e84978bf9590c9349889f626074554a", func := "warden/wardenlaw.Typings", spec := "typings", unfollowed := true, recurses := true, named := ["warden/classfile.shapes", "warden/link.builtIn"], plainKeys := false, apart := false, laid := [("warden/classfile.shapes", laid_warden_classfile_shapes), ("warden/link.builtIn", laid_warden_link_builtIn)], narrowed := true }
def TypingsUptoSaid : Prop := typingsUptoRow.holds Tryz.pinned (OpenSpec.upto typingsSpec)

/-- 'wardenlaw.Runs', WHERE WHAT IT READS IS OF BULK AT MOST 1048576: true; the input reads as it did. -/
def runsUptoRow : OpenClaim := { program := "ytdhophglnhcjbaagreatdoor", sum := "b195e80a759e462d759c3deb7e105f399e84978bf9590c9349889f626074554a", func := "warden/wardenlaw.Runs", spec := "runs", unfollowed := true, recurses := true, named := ["warden/classfile.shapes", "warden/link.builtIn", "warden/machine.thrownOfItself"], plainKeys := false, apart := false, laid := [("warden/classfile.shapes", laid_warden_classfile_shapes), ("warden/link.builtIn", laid_warden_link_builtIn), ("warden/machine.thrownOfItself", laid_warden_machine_thrownOfItself)], narrowed := true }
def RunsUptoSaid : Prop := runsUptoRow.holds Tryz.pinned (OpenSpec.upto runsSpec)

/-- 'wardenlaw.Fasts', WHERE WHAT IT READS IS OF BULK AT MOST 1048576: true; the input reads as it did. -/
def fastsUptoRow : OpenClaim := { program := "ytdhophglnhcjbaagreatdoor", sum := "b195e80a759e462d759c3deb7e105f399e84978bf9590c9349889f626074554a", func := "warden/wardenlaw.Fasts", spec := "fasts", unfollowed := true, recurses := true, named := ["warden/classfile.shapes", "warden/link.builtIn", "warden/machine.thrownOfItself"], plainKeys := false, apart := false, laid := [("warden/classfile.shapes", laid_warden_classfile_shapes), ("warden/link.builtIn", laid_warden_link_builtIn), ("warden/machine.thrownOfItself", laid_warden_machine_thrownOfItself)], narrowed := true }
def FastsUptoSaid : Prop := fastsUptoRow.holds Tryz.pinned (OpenSpec.upto fastsSpec)

/-- 'wardenkeep.Exact', WHERE WHAT IT READS IS OF BULK AT MOST 1048576: true; the input reads as it did. -/
def exactUptoRow : OpenClaim := { program := "ytdhophglnhcjbaagreatdoor", sum := "b195e80a759e462d759c3deb7e105f399e84978bf9590c9349889f626074554a", func := "warden/wardenkeep.Exact", spec := "exact", unfollowed := true, recurses := true, named := ["warden/classfile.shapes", "warden/link.builtIn", "warden/machine.thrownOfItself"], plainKeys := false, apart := false, laid := [("warden/classfile.shapes", laid_warden_classfile_shapes), ("warden/link.builtIn", laid_warden_link_builtIn), ("warden/machine.thrownOfItself", laid_warden_machine_thrownOfItself)], narrowed := true }
def ExactUptoSaid : Prop := exactUptoRow.holds Tryz.pinned (OpenSpec.upto exactSpec)

/-- 'wardenkeep.Erased', WHERE WHAT IT READS IS OF BULK AT MOST 1048576: true; the input reads as it did. -/
def erasedUptoRow : OpenClaim := { program := "ytdhophglnhcjbaagreatdoor", sum := "b195e80a759e462d759c3deb7e105f399e84978bf9590c9349889f626074554a", func := "warden/wardenkeep.Erased", spec := "erased", unfollowed := true, recurses := true, named := ["warden/classfile.shapes", "warden/link.builtIn", "warden/machine.thrownOfItself"], plainKeys := false, apart := false, laid := [("warden/classfile.shapes", laid_warden_classfile_shapes), ("warden/link.builtIn", laid_warden_link_builtIn), ("warden/machine.thrownOfItself", laid_warden_machine_thrownOfItself)], narrowed := true }
def ErasedUptoSaid : Prop := erasedUptoRow.holds Tryz.pinned (OpenSpec.upto erasedSpec)

/-- 'wardenkeep.Conform', WHERE WHAT IT READS IS OF BULK AT MOST 1048576: true; the input reads as it did. -/
def conformUptoRow : OpenClaim := { program := "ytdhophglnhcjbaagreatdoor", sum := "b195e80a759e462d759c3deb7e105f399e84978bf9590c9349889f626074554a", func := "warden/wardenkeep.Conform", spec := "conform", unfollowed := true, recurses := true, named := ["warden/classfile.shapes", "warden/link.builtIn", "warden/machine.thrownOfItself"], plainKeys := false, apart := false, laid := [("warden/classfile.shapes", laid_warden_classfile_shapes), ("warden/link.builtIn", laid_warden_link_builtIn), ("warden/machine.thrownOfItself", laid_warden_machine_thrownOfItself)], narrowed := true }
def ConformUptoSaid : Prop := conformUptoRow.holds Tryz.pinned (OpenSpec.upto conformSpec)

/-- 'wardenkeep.Split', WHERE WHAT IT READS IS OF BULK AT MOST 1048576: true; the input reads as it did. -/
def splitUptoRow : OpenClaim := { program := "ytdhophglnhcjbaagreatdoor", sum := "b195e80a759e462d759c3deb7e105f399e84978bf9590c9349889f626074554a", func := "warden/wardenkeep.Split", spec := "split", unfollowed := true, recurses := true, named := ["warden/classfile.shapes", "warden/link.builtIn", "warden/machine.thrownOfItself"], plainKeys := false, apart := false, laid := [("warden/classfile.shapes", laid_warden_classfile_shapes), ("warden/link.builtIn", laid_warden_link_builtIn), ("warden/machine.thrownOfItself", laid_warden_machine_thrownOfItself)], narrowed := true }
def SplitUptoSaid : Prop := splitUptoRow.holds Tryz.pinned (OpenSpec.upto splitSpec)

/-- 'wardenkeep.Apart', WHERE WHAT IT READS IS OF BULK AT MOST 1048576: true; the input reads as it did. -/
def apartUptoRow : OpenClaim := { program := "ytdhophglnhcjbaagreatdoor", sum := "b195e80a759e462d759c3deb7e105f399e84978bf9590c9349889f626074554a", func := "warden/wardenkeep.Apart", spec := "apart", unfollowed := true, recurses := true, named := ["warden/classfile.shapes", "warden/link.builtIn", "warden/machine.thrownOfItself"], plainKeys := false, apart := false, laid := [("warden/classfile.shapes", laid_warden_classfile_shapes), ("warden/link.builtIn", laid_warden_link_builtIn), ("warden/machine.thrownOfItself", laid_warden_machine_thrownOfItself)], narrowed := true }
def ApartUptoSaid : Prop := apartUptoRow.holds Tryz.pinned (OpenSpec.upto apartSpec)

end Rows
end Go.Proofs.YtdhophglnhcjbaaGreatDoor
