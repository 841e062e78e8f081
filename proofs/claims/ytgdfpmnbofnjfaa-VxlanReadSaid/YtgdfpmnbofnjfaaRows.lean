/-
  No cell of these rows narrows 'for every input' (looked for: loops, veiled, ifaces, maps, wideKeys, modest, calm, conditions, laid).
  DERIVED. THE GIVEN ROWS OF THIS SEAT. 6 by the template 'for every input the law returns true; each argument reads behind the call as it read before'; 0 by the template 'total and deterministic' (their statements: YtgdfpmnbofnjfaaTotals.lean).
  GIVEN WITH THE SEED: the statements are not yours to turn. If you find one false, say at which input.
  Laid BY PROGRAM, IN A SANDBOX (cutbox-rows.mjs): the forced cells as the released guide's own fill.sh prints them over the translation 39e2d0c818188139… (all of the seat's roots in one cut). By AI agents, Wed Nov 11 2026. No macro, syntax, notation, axiom, sorry.
-/
import Derived.Test.YtgdfpmnbofnjfaaChecked
import GoSem.Claim
import GoSem.ClaimJoined
import GoSem.ClaimMapViews
import Derived.JoinedTies
import Derived.KernelRfl
namespace Go.Proofs.Ytgdfpmnbofnjfaa
/- THE CELL 'sum', in the pinned program and in every row, IS THE sha256 OF THE DUMP (.gsa) THAT YtgdfpmnbofnjfaaProg.lean LOADS. Nothing in Lean hashes anything: it is a label: what it is worth is what the hold of that sum in a sandbox is worth. -/
noncomputable def Try.pinned : Pinned := { name := "ytgdfpmnbofnjfaa", sum := "39e2d0c8181881397dd1e03b7478b30b0789e7e5469122467be8fe867ea9c73e", checked := Try.checked }
namespace Rows
def none {H : Type} : Left H := { results := [], args := [] }

/-- 'leafmeshlaw08.VxlanNames': WHATEVER THE INPUT: true; the input reads as it did. -/
def vxlanNamesSpec : ChangeSpec := { name := "vxlanNames", fn := fun _ => fun
  | [] => { results := [.lit (.bool true)], args := [] }
  | _ => none }
def vxlanNamesRow : OpenClaim := { program := "ytgdfpmnbofnjfaa", sum := "39e2d0c8181881397dd1e03b7478b30b0789e7e5469122467be8fe867ea9c73e", func := "leafmesh/leafmeshlaw08.VxlanNames", spec := "vxlanNames", unfollowed := true, recurses := true, apart := false }
def VxlanNamesSaid : Prop := vxlanNamesRow.holds Try.pinned (OpenSpec.ofChange vxlanNamesSpec)

/-- ITS FALSE NEIGHBOUR: 'it returns false'. Refute it at one input. -/
def vxlanNamesWrong : ChangeSpec := { name := "vxlanNames", fn := fun _ => fun
  | [] => { results := [.lit (.bool false)], args := [] }
  | _ => none }
def VxlanNamesWrongFalsely : Prop := vxlanNamesRow.holds Try.pinned (OpenSpec.ofChange vxlanNamesWrong)

/-- 'leafmeshlaw08.VxlanCalls': WHATEVER THE INPUT: true; the input reads as it did. -/
def vxlanCallsSpec : ChangeSpec := { name := "vxlanCalls", fn := fun _ => fun
  | [d1, d2] => { results := [.lit (.bool true)], args := [d1, d2] }
  | _ => none }
def vxlanCallsRow : OpenClaim := { program := "ytgdfpmnbofnjfaa", sum := "39e2d0c8181881397dd1e03b7478b30b0789e7e5469122467be8fe867ea9c73e", func := "leafmesh/leafmeshlaw08.VxlanCalls", spec := "vxlanCalls", unfollowed := true, recurses := true, apart := false }
def VxlanCallsSaid : Prop := vxlanCallsRow.holds Try.pinned (OpenSpec.ofChange vxlanCallsSpec)

/-- ITS FALSE NEIGHBOUR: 'it returns false'. Refute it at one input. -/
def vxlanCallsWrong : ChangeSpec := { name := "vxlanCalls", fn := fun _ => fun
  | [d1, d2] => { results := [.lit (.bool false)], args := [d1, d2] }
  | _ => none }
def VxlanCallsWrongFalsely : Prop := vxlanCallsRow.holds Try.pinned (OpenSpec.ofChange vxlanCallsWrong)

/-- 'leafmeshlaw08.VxlanRead': WHATEVER THE INPUT: true; the input reads as it did. -/
def vxlanReadSpec : ChangeSpec := { name := "vxlanRead", fn := fun _ => fun
  | [d] => { results := [.lit (.bool true)], args := [d] }
  | _ => none }
def vxlanReadRow : OpenClaim := { program := "ytgdfpmnbofnjfaa", sum := "39e2d0c8181881397dd1e03b7478b30b0789e7e5469122467be8fe867ea9c73e", func := "leafmesh/leafmeshlaw08.VxlanRead", spec := "vxlanRead", unfollowed := true, recurses := true, apart := false }
def VxlanReadSaid : Prop := vxlanReadRow.holds Try.pinned (OpenSpec.ofChange vxlanReadSpec)

/-- ITS FALSE NEIGHBOUR: 'it returns false'. Refute it at one input. -/
def vxlanReadWrong : ChangeSpec := { name := "vxlanRead", fn := fun _ => fun
  | [d] => { results := [.lit (.bool false)], args := [d] }
  | _ => none }
def VxlanReadWrongFalsely : Prop := vxlanReadRow.holds Try.pinned (OpenSpec.ofChange vxlanReadWrong)

/-- 'leafmeshlaw08.VxlanBack': WHATEVER THE INPUT: true; the input reads as it did. -/
def vxlanBackSpec : ChangeSpec := { name := "vxlanBack", fn := fun _ => fun
  | [d1, d2] => { results := [.lit (.bool true)], args := [d1, d2] }
  | _ => none }
def vxlanBackRow : OpenClaim := { program := "ytgdfpmnbofnjfaa", sum := "39e2d0c8181881397dd1e03b7478b30b0789e7e5469122467be8fe867ea9c73e", func := "leafmesh/leafmeshlaw08.VxlanBack", spec := "vxlanBack", unfollowed := true, recurses := true, apart := false }
def VxlanBackSaid : Prop := vxlanBackRow.holds Try.pinned (OpenSpec.ofChange vxlanBackSpec)

/-- ITS FALSE NEIGHBOUR: 'it returns false'. Refute it at one input. -/
def vxlanBackWrong : ChangeSpec := { name := "vxlanBack", fn := fun _ => fun
  | [d1, d2] => { results := [.lit (.bool false)], args := [d1, d2] }
  | _ => none }
def VxlanBackWrongFalsely : Prop := vxlanBackRow.holds Try.pinned (OpenSpec.ofChange vxlanBackWrong)

/-- 'leafmeshlaw08.VxlanFlows': WHATEVER THE INPUT: true; the input reads as it did. -/
def vxlanFlowsSpec : ChangeSpec := { name := "vxlanFlows", fn := fun _ => fun
  | [d1, d2] => { results := [.lit (.bool true)], args := [d1, d2] }
  | _ => none }
def vxlanFlowsRow : OpenClaim := { program := "ytgdfpmnbofnjfaa", sum := "39e2d0c8181881397dd1e03b7478b30b0789e7e5469122467be8fe867ea9c73e", func := "leafmesh/leafmeshlaw08.VxlanFlows", spec := "vxlanFlows", unfollowed := true, recurses := true, apart := false }
def VxlanFlowsSaid : Prop := vxlanFlowsRow.holds Try.pinned (OpenSpec.ofChange vxlanFlowsSpec)

/-- ITS FALSE NEIGHBOUR: 'it returns false'. Refute it at one input. -/
def vxlanFlowsWrong : ChangeSpec := { name := "vxlanFlows", fn := fun _ => fun
  | [d1, d2] => { results := [.lit (.bool false)], args := [d1, d2] }
  | _ => none }
def VxlanFlowsWrongFalsely : Prop := vxlanFlowsRow.holds Try.pinned (OpenSpec.ofChange vxlanFlowsWrong)

/-- 'leafmeshlaw08.VxlanChanges': WHATEVER THE INPUT: true; the input reads as it did. -/
def vxlanChangesSpec : ChangeSpec := { name := "vxlanChanges", fn := fun _ => fun
  | [d1, d2, d3] => { results := [.lit (.bool true)], args := [d1, d2, d3] }
  | _ => none }
def vxlanChangesRow : OpenClaim := { program := "ytgdfpmnbofnjfaa", sum := "39e2d0c8181881397dd1e03b7478b30b0789e7e5469122467be8fe867ea9c73e", func := "leafmesh/leafmeshlaw08.VxlanChanges", spec := "vxlanChanges", unfollowed := true, recurses := true, apart := false }
def VxlanChangesSaid : Prop := vxlanChangesRow.holds Try.pinned (OpenSpec.ofChange vxlanChangesSpec)

/-- ITS FALSE NEIGHBOUR: 'it returns false'. Refute it at one input. -/
def vxlanChangesWrong : ChangeSpec := { name := "vxlanChanges", fn := fun _ => fun
  | [d1, d2, d3] => { results := [.lit (.bool false)], args := [d1, d2, d3] }
  | _ => none }
def VxlanChangesWrongFalsely : Prop := vxlanChangesRow.holds Try.pinned (OpenSpec.ofChange vxlanChangesWrong)

/- THE SECOND FORM. 'bulk': how many values and letters a reading holds, each counted each time it is reached (what is shared counts as often as it is met; a slice's spare places count too). A statement '..UptoSaid' is the law's where the arguments, and the package variables that the reading takes, are together of bulk at most 1048576: NARROWER than '..Said'. Prove '..Said' where nothing that the law and all that it calls make is longer than what came in: it says more and counts as full. Else prove '..UptoSaid'. A law counts once. -/
mutual
def uptoBulk {H : Type} : DataW H → Nat
  | .lit (.string bytes) => bytes.length + 1
  | .lit _ => 1
  | .nil => 1
  | .ptr d => uptoBulk d + 1
  | .slice elems spare => uptoBulkAll elems + uptoBulkAll spare + 1
  | .agg parts => uptoBulkAll parts + 1
  | .iface _ d => uptoBulk d + 1
  | .map entries => uptoBulkEntries entries + 1
  | .held _ => 1
def uptoBulkAll {H : Type} : List (DataW H) → Nat
  | [] => 0
  | d :: r => uptoBulk d + uptoBulkAll r
def uptoBulkEntries {H : Type} : List (Lit × DataW H) → Nat
  | [] => 0
  | x :: r => uptoBulkEntry x + uptoBulkEntries r
def uptoBulkEntry {H : Type} : Lit × DataW H → Nat
  | (.string bytes, d) => bytes.length + uptoBulk d + 1
  | (_, d) => uptoBulk d + 1
 end
def uptoSmall : (H : Type) → List (DataW H) → Bool := fun _ ds => decide (uptoBulkAll ds ≤ 1048576)
def OpenSpec.upto (s : _root_.Go.ChangeSpec) : _root_.Go.OpenSpec := { _root_.Go.OpenSpec.ofChange s with cond := some uptoSmall }

/-- 'leafmeshlaw08.VxlanNames', WHERE WHAT IT READS IS OF BULK AT MOST 1048576: true; the input reads as it did. -/
def vxlanNamesUptoRow : OpenClaim := { program := "ytgdfpmnbofnjfaa", sum := "39e2d0c8181881397dd1e03b7478b30b0789e7e5469122467be8fe867ea9c73e", func := "leafmesh/leafmeshlaw08.VxlanNames", spec := "vxlanNames", unfollowed := true, recurses := true, apart := false, narrowed := true }
def VxlanNamesUptoSaid : Prop := vxlanNamesUptoRow.holds Try.pinned (OpenSpec.upto vxlanNamesSpec)

/-- 'leafmeshlaw08.VxlanCalls', WHERE WHAT IT READS IS OF BULK AT MOST 1048576: true; the input reads as it did. -/
def vxlanCallsUptoRow : OpenClaim := { program := "ytgdfpmnbofnjfaa", sum := "39e2d0c8181881397dd1e03b7478b30b0789e7e5469122467be8fe867ea9c73e", func := "leafmesh/leafmeshlaw08.VxlanCalls", spec := "vxlanCalls", unfollowed := true, recurses := true, apart := false, narrowed := true }
def VxlanCallsUptoSaid : Prop := vxlanCallsUptoRow.holds Try.pinned (OpenSpec.upto vxlanCallsSpec)

/-- 'leafmeshlaw08.VxlanRead', WHERE WHAT IT READS IS OF BULK AT MOST 1048576: true; the input reads as it did. -/
def vxlanReadUptoRow : OpenClaim := { program := "ytgdfpmnbofnjfaa", sum := "39e2d0c8181881397dd1e03b7478b30b0789e7e5469122467be8fe867ea9c73e", func := "leafmesh/leafmeshlaw08.VxlanRead", spec := "vxlanRead", unfollowed := true, recurses := true, apart := false, narrowed := true }
def VxlanReadUptoSaid : Prop := vxlanReadUptoRow.holds Try.pinned (OpenSpec.upto vxlanReadSpec)

/-- 'leafmeshlaw08.VxlanBack', WHERE WHAT IT READS IS OF BULK AT MOST 1048576: true; the input reads as it did. -/
def vxlanBackUptoRow : OpenClaim := { program := "ytgdfpmnbofnjfaa", sum := "39e2d0c8181881397dd1e03b7478b30b0789e7e5469122467be8fe867ea9c73e", func := "leafmesh/leafmeshlaw08.VxlanBack", spec := "vxlanBack", unfollowed := true, recurses := true, apart := false, narrowed := true }
def VxlanBackUptoSaid : Prop := vxlanBackUptoRow.holds Try.pinned (OpenSpec.upto vxlanBackSpec)

/-- 'leafmeshlaw08.VxlanFlows', WHERE WHAT IT READS IS OF BULK AT MOST 1048576: true; the input reads as it did. -/
def vxlanFlowsUptoRow : OpenClaim := { program := "ytgdfpmnbofnjfaa", sum := "39e2d0c8181881397dd1e03b7478b30b0789e7e5469122467be8fe867ea9c73e", func := "leafmesh/leafmeshlaw08.VxlanFlows", spec := "vxlanFlows", unfollowed := true, recurses := true, apart := false, narrowed := true }
def VxlanFlowsUptoSaid : Prop := vxlanFlowsUptoRow.holds Try.pinned (OpenSpec.upto vxlanFlowsSpec)

/-- 'leafmeshlaw08.VxlanChanges', WHERE WHAT IT READS IS OF BULK AT MOST 1048576: true; the input reads as it did. -/
def vxlanChangesUptoRow : OpenClaim := { program := "ytgdfpmnbofnjfaa", sum := "39e2d0c8181881397dd1e03b7478b30b0789e7e5469122467be8fe867ea9c73e", func := "leafmesh/leafmeshlaw08.VxlanChanges", spec := "vxlanChanges", unfollowed := true, recurses := true, apart := false, narrowed := true }
def VxlanChangesUptoSaid : Prop := vxlanChangesUptoRow.holds Try.pinned (OpenSpec.upto vxlanChangesSpec)

end Rows
end Go.Proofs.Ytgdfpmnbofnjfaa
