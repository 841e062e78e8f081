/-
  No cell of these rows narrows 'for every input' (looked for: loops, veiled, ifaces, maps, wideKeys, modest, calm, conditions, laid).
  DERIVED. THE GIVEN ROWS OF THIS SEAT. 6 by the template 'for every input the law returns true; each argument reads behind the call as it read before'; 0 by the template 'total and deterministic' (their statements: YtnmbmogjgkgjjaaTotals.lean).
  GIVEN WITH THE SEED: the statements are not yours to turn. If you find one false, say at which input.
  Laid BY PROGRAM, IN A SANDBOX (cutbox-rows.mjs): the forced cells as the released guide's own fill.sh prints them over the translation 147377838344f2d0… (all of the seat's roots in one cut). By AI agents, Wed Nov 11 2026. No macro, syntax, notation, axiom, sorry.
-/
import Derived.Test.YtnmbmogjgkgjjaaChecked
import GoSem.Claim
import GoSem.ClaimJoined
import GoSem.ClaimMapViews
import Derived.JoinedTies
import Derived.KernelRfl
namespace Go.Proofs.Ytnmbmogjgkgjjaa
/- THE CELL 'sum', in the pinned program and in every row, IS THE sha256 OF THE DUMP (.gsa) THAT YtnmbmogjgkgjjaaProg.lean LOADS. Nothing in Lean hashes anything: it is a label: what it is worth is what the hold of that sum in a sandbox is worth. -/
noncomputable def Try.pinned : Pinned := { name := "ytnmbmogjgkgjjaa", sum := "147377838344f2d0f25fb1e6ea0e45272f14942492a0ef9b80b87b1f5a41a919", checked := Try.checked }
namespace Rows
def none {H : Type} : Left H := { results := [], args := [] }

/-- 'leafmeshlaw07.PacketNames': WHATEVER THE INPUT: true; the input reads as it did. -/
def packetNamesSpec : ChangeSpec := { name := "packetNames", fn := fun _ => fun
  | [] => { results := [.lit (.bool true)], args := [] }
  | _ => none }
def packetNamesRow : OpenClaim := { program := "ytnmbmogjgkgjjaa", sum := "147377838344f2d0f25fb1e6ea0e45272f14942492a0ef9b80b87b1f5a41a919", func := "leafmesh/leafmeshlaw07.PacketNames", spec := "packetNames", unfollowed := true, recurses := true, apart := false }
def PacketNamesSaid : Prop := packetNamesRow.holds Try.pinned (OpenSpec.ofChange packetNamesSpec)

/-- ITS FALSE NEIGHBOUR: 'it returns false'. Refute it at one input. -/
def packetNamesWrong : ChangeSpec := { name := "packetNames", fn := fun _ => fun
  | [] => { results := [.lit (.bool false)], args := [] }
  | _ => none }
def PacketNamesWrongFalsely : Prop := packetNamesRow.holds Try.pinned (OpenSpec.ofChange packetNamesWrong)

/-- 'leafmeshlaw07.PacketCalls': WHATEVER THE INPUT: true; the input reads as it did. -/
def packetCallsSpec : ChangeSpec := { name := "packetCalls", fn := fun _ => fun
  | [d1, d2, d3] => { results := [.lit (.bool true)], args := [d1, d2, d3] }
  | _ => none }
def packetCallsRow : OpenClaim := { program := "ytnmbmogjgkgjjaa", sum := "147377838344f2d0f25fb1e6ea0e45272f14942492a0ef9b80b87b1f5a41a919", func := "leafmesh/leafmeshlaw07.PacketCalls", spec := "packetCalls", unfollowed := true, recurses := true, apart := false }
def PacketCallsSaid : Prop := packetCallsRow.holds Try.pinned (OpenSpec.ofChange packetCallsSpec)

/-- ITS FALSE NEIGHBOUR: 'it returns false'. Refute it at one input. -/
def packetCallsWrong : ChangeSpec := { name := "packetCalls", fn := fun _ => fun
  | [d1, d2, d3] => { results := [.lit (.bool false)], args := [d1, d2, d3] }
  | _ => none }
def PacketCallsWrongFalsely : Prop := packetCallsRow.holds Try.pinned (OpenSpec.ofChange packetCallsWrong)

/-- 'leafmeshlaw07.PacketRead': WHATEVER THE INPUT: true; the input reads as it did. -/
def packetReadSpec : ChangeSpec := { name := "packetRead", fn := fun _ => fun
  | [d] => { results := [.lit (.bool true)], args := [d] }
  | _ => none }
def packetReadRow : OpenClaim := { program := "ytnmbmogjgkgjjaa", sum := "147377838344f2d0f25fb1e6ea0e45272f14942492a0ef9b80b87b1f5a41a919", func := "leafmesh/leafmeshlaw07.PacketRead", spec := "packetRead", unfollowed := true, recurses := true, apart := false }
def PacketReadSaid : Prop := packetReadRow.holds Try.pinned (OpenSpec.ofChange packetReadSpec)

/-- ITS FALSE NEIGHBOUR: 'it returns false'. Refute it at one input. -/
def packetReadWrong : ChangeSpec := { name := "packetRead", fn := fun _ => fun
  | [d] => { results := [.lit (.bool false)], args := [d] }
  | _ => none }
def PacketReadWrongFalsely : Prop := packetReadRow.holds Try.pinned (OpenSpec.ofChange packetReadWrong)

/-- 'leafmeshlaw07.PacketBack': WHATEVER THE INPUT: true; the input reads as it did. -/
def packetBackSpec : ChangeSpec := { name := "packetBack", fn := fun _ => fun
  | [d] => { results := [.lit (.bool true)], args := [d] }
  | _ => none }
def packetBackRow : OpenClaim := { program := "ytnmbmogjgkgjjaa", sum := "147377838344f2d0f25fb1e6ea0e45272f14942492a0ef9b80b87b1f5a41a919", func := "leafmesh/leafmeshlaw07.PacketBack", spec := "packetBack", unfollowed := true, recurses := true, apart := false }
def PacketBackSaid : Prop := packetBackRow.holds Try.pinned (OpenSpec.ofChange packetBackSpec)

/-- ITS FALSE NEIGHBOUR: 'it returns false'. Refute it at one input. -/
def packetBackWrong : ChangeSpec := { name := "packetBack", fn := fun _ => fun
  | [d] => { results := [.lit (.bool false)], args := [d] }
  | _ => none }
def PacketBackWrongFalsely : Prop := packetBackRow.holds Try.pinned (OpenSpec.ofChange packetBackWrong)

/-- 'leafmeshlaw07.PacketOnly': WHATEVER THE INPUT: true; the input reads as it did. -/
def packetOnlySpec : ChangeSpec := { name := "packetOnly", fn := fun _ => fun
  | [d1, d2, d3] => { results := [.lit (.bool true)], args := [d1, d2, d3] }
  | _ => none }
def packetOnlyRow : OpenClaim := { program := "ytnmbmogjgkgjjaa", sum := "147377838344f2d0f25fb1e6ea0e45272f14942492a0ef9b80b87b1f5a41a919", func := "leafmesh/leafmeshlaw07.PacketOnly", spec := "packetOnly", unfollowed := true, recurses := true, apart := false }
def PacketOnlySaid : Prop := packetOnlyRow.holds Try.pinned (OpenSpec.ofChange packetOnlySpec)

/-- ITS FALSE NEIGHBOUR: 'it returns false'. Refute it at one input. -/
def packetOnlyWrong : ChangeSpec := { name := "packetOnly", fn := fun _ => fun
  | [d1, d2, d3] => { results := [.lit (.bool false)], args := [d1, d2, d3] }
  | _ => none }
def PacketOnlyWrongFalsely : Prop := packetOnlyRow.holds Try.pinned (OpenSpec.ofChange packetOnlyWrong)

/-- 'leafmeshlaw07.PacketSums': WHATEVER THE INPUT: true; the input reads as it did. -/
def packetSumsSpec : ChangeSpec := { name := "packetSums", fn := fun _ => fun
  | [d1, d2, d3] => { results := [.lit (.bool true)], args := [d1, d2, d3] }
  | _ => none }
def packetSumsRow : OpenClaim := { program := "ytnmbmogjgkgjjaa", sum := "147377838344f2d0f25fb1e6ea0e45272f14942492a0ef9b80b87b1f5a41a919", func := "leafmesh/leafmeshlaw07.PacketSums", spec := "packetSums", unfollowed := true, recurses := true, apart := false }
def PacketSumsSaid : Prop := packetSumsRow.holds Try.pinned (OpenSpec.ofChange packetSumsSpec)

/-- ITS FALSE NEIGHBOUR: 'it returns false'. Refute it at one input. -/
def packetSumsWrong : ChangeSpec := { name := "packetSums", fn := fun _ => fun
  | [d1, d2, d3] => { results := [.lit (.bool false)], args := [d1, d2, d3] }
  | _ => none }
def PacketSumsWrongFalsely : Prop := packetSumsRow.holds Try.pinned (OpenSpec.ofChange packetSumsWrong)

/- THE SECOND FORM. 'bulk': how many values and letters a reading holds, each counted each time it is reached (what is shared counts as often as it is met; a slice's spare places count too). A statement '..UptoSaid' is the law's where the arguments, and the package variables that the reading takes, are together of bulk at most 1048576: NARROWER than '..Said'. Prove '..Said' where nothing that the law and all that it calls make is longer than what came in: it says more and counts as full. Else prove '..UptoSaid'. A law counts once. -/
mutual
def uptoBulk {H : Type} : DataW H → Nat
  | .lit (.string bytes) => bytes.length + 1
  | .lit _ => 1
  | .nil => 1
  | .ptr d => uptoBulk d + 1
  | .slice elems spare => uptoBulkAll elems + uptoBulkAll spare + 1
  | .agg parts => uptoBulkAll parts + 1
  | .iface _ d => uptoBulk d + 1
  | .map entries => uptoBulkEntries entries + 1
  | .held _ => 1
def uptoBulkAll {H : Type} : List (DataW H) → Nat
  | [] => 0
  | d :: r => uptoBulk d + uptoBulkAll r
def uptoBulkEntries {H : Type} : List (Lit × DataW H) → Nat
  | [] => 0
  | x :: r => uptoBulkEntry x + uptoBulkEntries r
def uptoBulkEntry {H : Type} : Lit × DataW H → Nat
  | (.string bytes, d) => bytes.length + uptoBulk d + 1
  | (_, d) => uptoBulk d + 1
 end
def uptoSmall : (H : Type) → List (DataW H) → Bool := fun _ ds => decide (uptoBulkAll ds ≤ 1048576)
def OpenSpec.upto (s : _root_.Go.ChangeSpec) : _root_.Go.OpenSpec := { _root_.Go.OpenSpec.ofChange s with cond := some uptoSmall }

/-- 'leafmeshlaw07.PacketNames', WHERE WHAT IT READS IS OF BULK AT MOST 1048576: true; the input reads as it did. -/
def packetNamesUptoRow : OpenClaim := { program := "ytnmbmogjgkgjjaa", sum := "147377838344f2d0f25fb1e6ea0e45272f14942492a0ef9b80b87b1f5a41a919", func := "leafmesh/leafmeshlaw07.PacketNames", spec := "packetNames", unfollowed := true, recurses := true, apart := false, narrowed := true }
def PacketNamesUptoSaid : Prop := packetNamesUptoRow.holds Try.pinned (OpenSpec.upto packetNamesSpec)

/-- 'leafmeshlaw07.PacketCalls', WHERE WHAT IT READS IS OF BULK AT MOST 1048576: true; the input reads as it did. -/
def packetCallsUptoRow : OpenClaim := { program := "ytnmbmogjgkgjjaa", sum := "147377838344f2d0f25fb1e6ea0e45272f14942492a0ef9b80b87b1f5a41a919", func := "leafmesh/leafmeshlaw07.PacketCalls", spec := "packetCalls", unfollowed := true, recurses := true, apart := false, narrowed := true }
def PacketCallsUptoSaid : Prop := packetCallsUptoRow.holds Try.pinned (OpenSpec.upto packetCallsSpec)

/-- 'leafmeshlaw07.PacketRead', WHERE WHAT IT READS IS OF BULK AT MOST 1048576: true; the input reads as it did. -/
def packetReadUptoRow : OpenClaim := { program := "ytnmbmogjgkgjjaa", sum := "147377838344f2d0f25fb1e6ea0e45272f14942492a0ef9b80b87b1f5a41a919", func := "leafmesh/leafmeshlaw07.PacketRead", spec := "packetRead", unfollowed := true, recurses := true, apart := false, narrowed := true }
def PacketReadUptoSaid : Prop := packetReadUptoRow.holds Try.pinned (OpenSpec.upto packetReadSpec)

/-- 'leafmeshlaw07.PacketBack', WHERE WHAT IT READS IS OF BULK AT MOST 1048576: true; the input reads as it did. -/
def packetBackUptoRow : OpenClaim := { program := "ytnmbmogjgkgjjaa", sum := "147377838344f2d0f25fb1e6ea0e45272f14942492a0ef9b80b87b1f5a41a919", func := "leafmesh/leafmeshlaw07.PacketBack", spec := "packetBack", unfollowed := true, recurses := true, apart := false, narrowed := true }
def PacketBackUptoSaid : Prop := packetBackUptoRow.holds Try.pinned (OpenSpec.upto packetBackSpec)

/-- 'leafmeshlaw07.PacketOnly', WHERE WHAT IT READS IS OF BULK AT MOST 1048576: true; the input reads as it did. -/
def packetOnlyUptoRow : OpenClaim := { program := "ytnmbmogjgkgjjaa", sum := "147377838344f2d0f25fb1e6ea0e45272f14942492a0ef9b80b87b1f5a41a919", func := "leafmesh/leafmeshlaw07.PacketOnly", spec := "packetOnly", unfollowed := true, recurses := true, apart := false, narrowed := true }
def PacketOnlyUptoSaid : Prop := packetOnlyUptoRow.holds Try.pinned (OpenSpec.upto packetOnlySpec)

/-- 'leafmeshlaw07.PacketSums', WHERE WHAT IT READS IS OF BULK AT MOST 1048576: true; the input reads as it did. -/
def packetSumsUptoRow : OpenClaim := { program := "ytnmbmogjgkgjjaa", sum := "147377838344f2d0f25fb1e6ea0e45272f14942492a0ef9b80b87b1f5a41a919", func := "leafmesh/leafmeshlaw07.PacketSums", spec := "packetSums", unfollowed := true, recurses := true, apart := false, narrowed := true }
def PacketSumsUptoSaid : Prop := packetSumsUptoRow.holds Try.pinned (OpenSpec.upto packetSumsSpec)

end Rows
end Go.Proofs.Ytnmbmogjgkgjjaa
