/-
  No cell of these rows narrows 'for every input' (looked for: loops, veiled, ifaces, maps, wideKeys, modest, calm, conditions, laid).
  DERIVED. THE GIVEN ROWS OF THIS SEAT. 7 by the template 'for every input the law returns true; each argument reads behind the call as it read before'; 0 by the template 'total and deterministic' (their statements: YtfmjcjkifjndgaaTotals.lean).
  GIVEN WITH THE SEED: the statements are not yours to turn. If you find one false, say at which input.
  Laid BY PROGRAM, IN A SANDBOX (cutbox-rows.mjs): the forced cells as the released guide's own fill.sh prints them over the translation 5f653a674cc43bde… (all of the seat's roots in one cut). By AI agents, Wed Nov 11 2026. No macro, syntax, notation, axiom, sorry.
-/
import Derived.Test.YtfmjcjkifjndgaaChecked
import GoSem.Claim
import GoSem.ClaimJoined
import GoSem.ClaimMapViews
import Derived.JoinedTies
import Derived.KernelRfl
namespace Go.Proofs.Ytfmjcjkifjndgaa
/- THE CELL 'sum', in the pinned program and in every row, IS THE sha256 OF THE DUMP (.gsa) THAT YtfmjcjkifjndgaaProg.lean LOADS. Nothing in Lean hashes anything: it is a label: what it is worth is what the hold of that sum in a sandbox is worth. -/
noncomputable def Try.pinned : Pinned := { name := "ytfmjcjkifjndgaa", sum := "5f653a674cc43bde4bf790bf067cc83728b233e0d93c641ef8803c732dd5126d", checked := Try.checked }
namespace Rows
def none {H : Type} : Left H := { results := [], args := [] }

/-- 'leafmeshlaw09.TopoNew': WHATEVER THE INPUT: true; the input reads as it did. -/
def topoNewSpec : ChangeSpec := { name := "topoNew", fn := fun _ => fun
  | [d1, d2] => { results := [.lit (.bool true)], args := [d1, d2] }
  | _ => none }
def topoNewRow : OpenClaim := { program := "ytfmjcjkifjndgaa", sum := "5f653a674cc43bde4bf790bf067cc83728b233e0d93c641ef8803c732dd5126d", func := "leafmesh/leafmeshlaw09.TopoNew", spec := "topoNew", unfollowed := true, recurses := true, apart := false }
def TopoNewSaid : Prop := topoNewRow.holds Try.pinned (OpenSpec.ofChange topoNewSpec)

/-- ITS FALSE NEIGHBOUR: 'it returns false'. Refute it at one input. -/
def topoNewWrong : ChangeSpec := { name := "topoNew", fn := fun _ => fun
  | [d1, d2] => { results := [.lit (.bool false)], args := [d1, d2] }
  | _ => none }
def TopoNewWrongFalsely : Prop := topoNewRow.holds Try.pinned (OpenSpec.ofChange topoNewWrong)

/-- 'leafmeshlaw09.TopoScript': WHATEVER THE INPUT: true; the input reads as it did. -/
def topoScriptSpec : ChangeSpec := { name := "topoScript", fn := fun _ => fun
  | [d1, d2, d3] => { results := [.lit (.bool true)], args := [d1, d2, d3] }
  | _ => none }
def topoScriptRow : OpenClaim := { program := "ytfmjcjkifjndgaa", sum := "5f653a674cc43bde4bf790bf067cc83728b233e0d93c641ef8803c732dd5126d", func := "leafmesh/leafmeshlaw09.TopoScript", spec := "topoScript", unfollowed := true, recurses := true, apart := false }
def TopoScriptSaid : Prop := topoScriptRow.holds Try.pinned (OpenSpec.ofChange topoScriptSpec)

/-- ITS FALSE NEIGHBOUR: 'it returns false'. Refute it at one input. -/
def topoScriptWrong : ChangeSpec := { name := "topoScript", fn := fun _ => fun
  | [d1, d2, d3] => { results := [.lit (.bool false)], args := [d1, d2, d3] }
  | _ => none }
def TopoScriptWrongFalsely : Prop := topoScriptRow.holds Try.pinned (OpenSpec.ofChange topoScriptWrong)

/-- 'leafmeshlaw09.TopoNone': WHATEVER THE INPUT: true; the input reads as it did. -/
def topoNoneSpec : ChangeSpec := { name := "topoNone", fn := fun _ => fun
  | [d] => { results := [.lit (.bool true)], args := [d] }
  | _ => none }
def topoNoneRow : OpenClaim := { program := "ytfmjcjkifjndgaa", sum := "5f653a674cc43bde4bf790bf067cc83728b233e0d93c641ef8803c732dd5126d", func := "leafmesh/leafmeshlaw09.TopoNone", spec := "topoNone", unfollowed := true, recurses := true, apart := false }
def TopoNoneSaid : Prop := topoNoneRow.holds Try.pinned (OpenSpec.ofChange topoNoneSpec)

/-- ITS FALSE NEIGHBOUR: 'it returns false'. Refute it at one input. -/
def topoNoneWrong : ChangeSpec := { name := "topoNone", fn := fun _ => fun
  | [d] => { results := [.lit (.bool false)], args := [d] }
  | _ => none }
def TopoNoneWrongFalsely : Prop := topoNoneRow.holds Try.pinned (OpenSpec.ofChange topoNoneWrong)

/-- 'leafmeshlaw09.TopoKnown': WHATEVER THE INPUT: true; the input reads as it did. -/
def topoKnownSpec : ChangeSpec := { name := "topoKnown", fn := fun _ => fun
  | [] => { results := [.lit (.bool true)], args := [] }
  | _ => none }
def topoKnownRow : OpenClaim := { program := "ytfmjcjkifjndgaa", sum := "5f653a674cc43bde4bf790bf067cc83728b233e0d93c641ef8803c732dd5126d", func := "leafmesh/leafmeshlaw09.TopoKnown", spec := "topoKnown", unfollowed := true, recurses := true, apart := false }
def TopoKnownSaid : Prop := topoKnownRow.holds Try.pinned (OpenSpec.ofChange topoKnownSpec)

/-- ITS FALSE NEIGHBOUR: 'it returns false'. Refute it at one input. -/
def topoKnownWrong : ChangeSpec := { name := "topoKnown", fn := fun _ => fun
  | [] => { results := [.lit (.bool false)], args := [] }
  | _ => none }
def TopoKnownWrongFalsely : Prop := topoKnownRow.holds Try.pinned (OpenSpec.ofChange topoKnownWrong)

/-- 'leafmeshlaw09.TopoParts': WHATEVER THE INPUT: true; the input reads as it did. -/
def topoPartsSpec : ChangeSpec := { name := "topoParts", fn := fun _ => fun
  | [d] => { results := [.lit (.bool true)], args := [d] }
  | _ => none }
def topoPartsRow : OpenClaim := { program := "ytfmjcjkifjndgaa", sum := "5f653a674cc43bde4bf790bf067cc83728b233e0d93c641ef8803c732dd5126d", func := "leafmesh/leafmeshlaw09.TopoParts", spec := "topoParts", unfollowed := true, recurses := true, apart := false }
def TopoPartsSaid : Prop := topoPartsRow.holds Try.pinned (OpenSpec.ofChange topoPartsSpec)

/-- ITS FALSE NEIGHBOUR: 'it returns false'. Refute it at one input. -/
def topoPartsWrong : ChangeSpec := { name := "topoParts", fn := fun _ => fun
  | [d] => { results := [.lit (.bool false)], args := [d] }
  | _ => none }
def TopoPartsWrongFalsely : Prop := topoPartsRow.holds Try.pinned (OpenSpec.ofChange topoPartsWrong)

/-- 'leafmeshlaw09.TopoCuts': WHATEVER THE INPUT: true; the input reads as it did. -/
def topoCutsSpec : ChangeSpec := { name := "topoCuts", fn := fun _ => fun
  | [d1, d2] => { results := [.lit (.bool true)], args := [d1, d2] }
  | _ => none }
def topoCutsRow : OpenClaim := { program := "ytfmjcjkifjndgaa", sum := "5f653a674cc43bde4bf790bf067cc83728b233e0d93c641ef8803c732dd5126d", func := "leafmesh/leafmeshlaw09.TopoCuts", spec := "topoCuts", unfollowed := true, recurses := true, apart := false }
def TopoCutsSaid : Prop := topoCutsRow.holds Try.pinned (OpenSpec.ofChange topoCutsSpec)

/-- ITS FALSE NEIGHBOUR: 'it returns false'. Refute it at one input. -/
def topoCutsWrong : ChangeSpec := { name := "topoCuts", fn := fun _ => fun
  | [d1, d2] => { results := [.lit (.bool false)], args := [d1, d2] }
  | _ => none }
def TopoCutsWrongFalsely : Prop := topoCutsRow.holds Try.pinned (OpenSpec.ofChange topoCutsWrong)

/-- 'leafmeshlaw09.TopoLast': WHATEVER THE INPUT: true; the input reads as it did. -/
def topoLastSpec : ChangeSpec := { name := "topoLast", fn := fun _ => fun
  | [d1, d2] => { results := [.lit (.bool true)], args := [d1, d2] }
  | _ => none }
def topoLastRow : OpenClaim := { program := "ytfmjcjkifjndgaa", sum := "5f653a674cc43bde4bf790bf067cc83728b233e0d93c641ef8803c732dd5126d", func := "leafmesh/leafmeshlaw09.TopoLast", spec := "topoLast", unfollowed := true, recurses := true, apart := false }
def TopoLastSaid : Prop := topoLastRow.holds Try.pinned (OpenSpec.ofChange topoLastSpec)

/-- ITS FALSE NEIGHBOUR: 'it returns false'. Refute it at one input. -/
def topoLastWrong : ChangeSpec := { name := "topoLast", fn := fun _ => fun
  | [d1, d2] => { results := [.lit (.bool false)], args := [d1, d2] }
  | _ => none }
def TopoLastWrongFalsely : Prop := topoLastRow.holds Try.pinned (OpenSpec.ofChange topoLastWrong)

/- THE SECOND FORM. 'bulk': how many values and letters a reading holds, each counted each time it is reached (what is shared counts as often as it is met; a slice's spare places count too). A statement '..UptoSaid' is the law's where the arguments, and the package variables that the reading takes, are together of bulk at most 1048576: NARROWER than '..Said'. Prove '..Said' where nothing that the law and all that it calls make is longer than what came in: it says more and counts as full. Else prove '..UptoSaid'. A law counts once. -/
mutual
def uptoBulk {H : Type} : DataW H → Nat
  | .lit (.string bytes) => bytes.length + 1
  | .lit _ => 1
  | .nil => 1
  | .ptr d => uptoBulk d + 1
  | .slice elems spare => uptoBulkAll elems + uptoBulkAll spare + 1
  | .agg parts => uptoBulkAll parts + 1
  | .iface _ d => uptoBulk d + 1
  | .map entries => uptoBulkEntries entries + 1
  | .held _ => 1
def uptoBulkAll {H : Type} : List (DataW H) → Nat
  | [] => 0
  | d :: r => uptoBulk d + uptoBulkAll r
def uptoBulkEntries {H : Type} : List (Lit × DataW H) → Nat
  | [] => 0
  | x :: r => uptoBulkEntry x + uptoBulkEntries r
def uptoBulkEntry {H : Type} : Lit × DataW H → Nat
  | (.string bytes, d) => bytes.length + uptoBulk d + 1
  | (_, d) => uptoBulk d + 1
 end
def uptoSmall : (H : Type) → List (DataW H) → Bool := fun _ ds => decide (uptoBulkAll ds ≤ 1048576)
def OpenSpec.upto (s : _root_.Go.ChangeSpec) : _root_.Go.OpenSpec := { _root_.Go.OpenSpec.ofChange s with cond := some uptoSmall }

/-- 'leafmeshlaw09.TopoNew', WHERE WHAT IT READS IS OF BULK AT MOST 1048576: true; the input reads as it did. -/
def topoNewUptoRow : OpenClaim := { program := "ytfmjcjkifjndgaa", sum := "5f653a674cc43bde4bf790bf067cc83728b233e0d93c641ef8803c732dd5126d", func := "leafmesh/leafmeshlaw09.TopoNew", spec := "topoNew", unfollowed := true, recurses := true, apart := false, narrowed := true }
def TopoNewUptoSaid : Prop := topoNewUptoRow.holds Try.pinned (OpenSpec.upto topoNewSpec)

/-- 'leafmeshlaw09.TopoScript', WHERE WHAT IT READS IS OF BULK AT MOST 1048576: true; the input reads as it did. -/
def topoScriptUptoRow : OpenClaim := { program := "ytfmjcjkifjndgaa", sum := "5f653a674cc43bde4bf790bf067cc83728b233e0d93c641ef8803c732dd5126d", func := "leafmesh/leafmeshlaw09.TopoScript", spec := "topoScript", unfollowed := true, recurses := true, apart := false, narrowed := true }
def TopoScriptUptoSaid : Prop := topoScriptUptoRow.holds Try.pinned (OpenSpec.upto topoScriptSpec)

/-- 'leafmeshlaw09.TopoNone', WHERE WHAT IT READS IS OF BULK AT MOST 1048576: true; the input reads as it did. -/
def topoNoneUptoRow : OpenClaim := { program := "ytfmjcjkifjndgaa", sum := "5f653a674cc43bde4bf790bf067cc83728b233e0d93c641ef8803c732dd5126d", func := "leafmesh/leafmeshlaw09.TopoNone", spec := "topoNone", unfollowed := true, recurses := true, apart := false, narrowed := true }
def TopoNoneUptoSaid : Prop := topoNoneUptoRow.holds Try.pinned (OpenSpec.upto topoNoneSpec)

/-- 'leafmeshlaw09.TopoKnown', WHERE WHAT IT READS IS OF BULK AT MOST 1048576: true; the input reads as it did. -/
def topoKnownUptoRow : OpenClaim := { program := "ytfmjcjkifjndgaa", sum := "5f653a674cc43bde4bf790bf067cc83728b233e0d93c641ef8803c732dd5126d", func := "leafmesh/leafmeshlaw09.TopoKnown", spec := "topoKnown", unfollowed := true, recurses := true, apart := false, narrowed := true }
def TopoKnownUptoSaid : Prop := topoKnownUptoRow.holds Try.pinned (OpenSpec.upto topoKnownSpec)

/-- 'leafmeshlaw09.TopoParts', WHERE WHAT IT READS IS OF BULK AT MOST 1048576: true; the input reads as it did. -/
def topoPartsUptoRow : OpenClaim := { program := "ytfmjcjkifjndgaa", sum := "5f653a674cc43bde4bf790bf067cc83728b233e0d93c641ef8803c732dd5126d", func := "leafmesh/leafmeshlaw09.TopoParts", spec := "topoParts", unfollowed := true, recurses := true, apart := false, narrowed := true }
def TopoPartsUptoSaid : Prop := topoPartsUptoRow.holds Try.pinned (OpenSpec.upto topoPartsSpec)

/-- 'leafmeshlaw09.TopoCuts', WHERE WHAT IT READS IS OF BULK AT MOST 1048576: true; the input reads as it did. -/
def topoCutsUptoRow : OpenClaim := { program := "ytfmjcjkifjndgaa", sum := "5f653a674cc43bde4bf790bf067cc83728b233e0d93c641ef8803c732dd5126d", func := "leafmesh/leafmeshlaw09.TopoCuts", spec := "topoCuts", unfollowed := true, recurses := true, apart := false, narrowed := true }
def TopoCutsUptoSaid : Prop := topoCutsUptoRow.holds Try.pinned (OpenSpec.upto topoCutsSpec)

/-- 'leafmeshlaw09.TopoLast', WHERE WHAT IT READS IS OF BULK AT MOST 1048576: true; the input reads as it did. -/
def topoLastUptoRow : OpenClaim := { program := "ytfmjcjkifjndgaa", sum := "5f653a674cc43bde4bf790bf067cc83728b233e0d93c641ef8803c732dd5126d", func := "leafmesh/leafmeshlaw09.TopoLast", spec := "topoLast", unfollowed := true, recurses := true, apart := false, narrowed := true }
def TopoLastUptoSaid : Prop := topoLastUptoRow.holds Try.pinned (OpenSpec.upto topoLastSpec)

end Rows
end Go.Proofs.Ytfmjcjkifjndgaa
