/-
  No cell of these rows narrows 'for every input' (looked for: loops, veiled, ifaces, maps, wideKeys, modest, calm, conditions, laid).
  DERIVED. THE GIVEN ROWS OF THIS SEAT. 5 by the template 'for every input the law returns true; each argument reads behind the call as it read before'; 0 by the template 'total and deterministic' (their statements: YtcpnfafhekgabaaTotals.lean).
  GIVEN WITH THE SEED: the statements are not yours to turn. If you find one false, say at which input.
  Laid BY PROGRAM, IN A SANDBOX (cutbox-rows.mjs): the forced cells as the released guide's own fill.sh prints them over the translation 3a406655394a6571… (all of the seat's roots in one cut). By AI agents, Wed Nov 11 2026. No macro, syntax, notation, axiom, sorry.
-/
import Derived.Test.YtcpnfafhekgabaaChecked
import GoSem.Claim
import GoSem.ClaimJoined
import GoSem.ClaimMapViews
import Derived.JoinedTies
import Derived.KernelRfl
namespace Go.Proofs.Ytcpnfafhekgabaa
/- THE CELL 'sum', in the pinned program and in every row, IS THE sha256 OF THE DUMP (.gsa) THAT YtcpnfafhekgabaaProg.lean LOADS. Nothing in Lean hashes anything: it is a label: what it is worth is what the hold of that sum in a sandbox is worth. -/
noncomputable def Try.pinned : Pinned := { name := "ytcpnfafhekgabaa", sum := "3a406655394a65710209cd71ed9ca53bf5ab3fd65bae5a29f13183ff0de080af", checked := Try.checked }
namespace Rows
def none {H : Type} : Left H := { results := [], args := [] }

/-- 'heliographlaw6.PolyTriangles': WHATEVER THE INPUT: true; the input reads as it did. -/
def polyTrianglesSpec : ChangeSpec := { name := "polyTriangles", fn := fun _ => fun
  | [d1, d2, d3, d4, d5] => { results := [.lit (.bool true)], args := [d1, d2, d3, d4, d5] }
  | _ => none }
def polyTrianglesRow : OpenClaim := { program := "ytcpnfafhekgabaa", sum := "3a406655394a65710209cd71ed9ca53bf5ab3fd65bae5a29f13183ff0de080af", func := "heliograph/heliographlaw6.PolyTriangles", spec := "polyTriangles", apart := false }
def PolyTrianglesSaid : Prop := polyTrianglesRow.holds Try.pinned (OpenSpec.ofChange polyTrianglesSpec)

/-- ITS FALSE NEIGHBOUR: 'it returns false'. Refute it at one input. -/
def polyTrianglesWrong : ChangeSpec := { name := "polyTriangles", fn := fun _ => fun
  | [d1, d2, d3, d4, d5] => { results := [.lit (.bool false)], args := [d1, d2, d3, d4, d5] }
  | _ => none }
def PolyTrianglesWrongFalsely : Prop := polyTrianglesRow.holds Try.pinned (OpenSpec.ofChange polyTrianglesWrong)

/-- 'heliographlaw6.PolyTells': WHATEVER THE INPUT: true; the input reads as it did. -/
def polyTellsSpec : ChangeSpec := { name := "polyTells", fn := fun _ => fun
  | [d1, d2, d3, d4] => { results := [.lit (.bool true)], args := [d1, d2, d3, d4] }
  | _ => none }
def polyTellsRow : OpenClaim := { program := "ytcpnfafhekgabaa", sum := "3a406655394a65710209cd71ed9ca53bf5ab3fd65bae5a29f13183ff0de080af", func := "heliograph/heliographlaw6.PolyTells", spec := "polyTells", apart := false }
def PolyTellsSaid : Prop := polyTellsRow.holds Try.pinned (OpenSpec.ofChange polyTellsSpec)

/-- ITS FALSE NEIGHBOUR: 'it returns false'. Refute it at one input. -/
def polyTellsWrong : ChangeSpec := { name := "polyTells", fn := fun _ => fun
  | [d1, d2, d3, d4] => { results := [.lit (.bool false)], args := [d1, d2, d3, d4] }
  | _ => none }
def PolyTellsWrongFalsely : Prop := polyTellsRow.holds Try.pinned (OpenSpec.ofChange polyTellsWrong)

/-- 'heliographlaw6.PolySure': WHATEVER THE INPUT: true; the input reads as it did. -/
def polySureSpec : ChangeSpec := { name := "polySure", fn := fun _ => fun
  | [d1, d2, d3, d4, d5] => { results := [.lit (.bool true)], args := [d1, d2, d3, d4, d5] }
  | _ => none }
def polySureRow : OpenClaim := { program := "ytcpnfafhekgabaa", sum := "3a406655394a65710209cd71ed9ca53bf5ab3fd65bae5a29f13183ff0de080af", func := "heliograph/heliographlaw6.PolySure", spec := "polySure", apart := false }
def PolySureSaid : Prop := polySureRow.holds Try.pinned (OpenSpec.ofChange polySureSpec)

/-- ITS FALSE NEIGHBOUR: 'it returns false'. Refute it at one input. -/
def polySureWrong : ChangeSpec := { name := "polySure", fn := fun _ => fun
  | [d1, d2, d3, d4, d5] => { results := [.lit (.bool false)], args := [d1, d2, d3, d4, d5] }
  | _ => none }
def PolySureWrongFalsely : Prop := polySureRow.holds Try.pinned (OpenSpec.ofChange polySureWrong)

/-- 'heliographlaw6.PolyTurns': WHATEVER THE INPUT: true; the input reads as it did. -/
def polyTurnsSpec : ChangeSpec := { name := "polyTurns", fn := fun _ => fun
  | [d1, d2, d3, d4, d5] => { results := [.lit (.bool true)], args := [d1, d2, d3, d4, d5] }
  | _ => none }
def polyTurnsRow : OpenClaim := { program := "ytcpnfafhekgabaa", sum := "3a406655394a65710209cd71ed9ca53bf5ab3fd65bae5a29f13183ff0de080af", func := "heliograph/heliographlaw6.PolyTurns", spec := "polyTurns", apart := false }
def PolyTurnsSaid : Prop := polyTurnsRow.holds Try.pinned (OpenSpec.ofChange polyTurnsSpec)

/-- ITS FALSE NEIGHBOUR: 'it returns false'. Refute it at one input. -/
def polyTurnsWrong : ChangeSpec := { name := "polyTurns", fn := fun _ => fun
  | [d1, d2, d3, d4, d5] => { results := [.lit (.bool false)], args := [d1, d2, d3, d4, d5] }
  | _ => none }
def PolyTurnsWrongFalsely : Prop := polyTurnsRow.holds Try.pinned (OpenSpec.ofChange polyTurnsWrong)

/-- 'heliographlaw6.PolyOdd': WHATEVER THE INPUT: true; the input reads as it did. -/
def polyOddSpec : ChangeSpec := { name := "polyOdd", fn := fun _ => fun
  | [d1, d2, d3] => { results := [.lit (.bool true)], args := [d1, d2, d3] }
  | _ => none }
def polyOddRow : OpenClaim := { program := "ytcpnfafhekgabaa", sum := "3a406655394a65710209cd71ed9ca53bf5ab3fd65bae5a29f13183ff0de080af", func := "heliograph/heliographlaw6.PolyOdd", spec := "polyOdd", apart := false }
def PolyOddSaid : Prop := polyOddRow.holds Try.pinned (OpenSpec.ofChange polyOddSpec)

/-- ITS FALSE NEIGHBOUR: 'it returns false'. Refute it at one input. -/
def polyOddWrong : ChangeSpec := { name := "polyOdd", fn := fun _ => fun
  | [d1, d2, d3] => { results := [.lit (.bool false)], args := [d1, d2, d3] }
  | _ => none }
def PolyOddWrongFalsely : Prop := polyOddRow.holds Try.pinned (OpenSpec.ofChange polyOddWrong)

/- THE SECOND FORM. 'bulk': how many values and letters a reading holds, each counted each time it is reached (what is shared counts as often as it is met; a slice's spare places count too). A statement '..UptoSaid' is the law's where the arguments, and the package variables that the reading takes, are together of bulk at most 1048576: NARROWER than '..Said'. Prove '..Said' where nothing that the law and all that it calls make is longer than what came in: it says more and counts as full. Else prove '..UptoSaid'. A law counts once. -/
mutual
def uptoBulk {H : Type} : DataW H → Nat
  | .lit (.string bytes) => bytes.length + 1
  | .lit _ => 1
  | .nil => 1
  | .ptr d => uptoBulk d + 1
  | .slice elems spare => uptoBulkAll elems + uptoBulkAll spare + 1
  | .agg parts => uptoBulkAll parts + 1
  | .iface _ d => uptoBulk d + 1
  | .map entries => uptoBulkEntries entries + 1
  | .held _ => 1
def uptoBulkAll {H : Type} : List (DataW H) → Nat
  | [] => 0
  | d :: r => uptoBulk d + uptoBulkAll r
def uptoBulkEntries {H : Type} : List (Lit × DataW H) → Nat
  | [] => 0
  | x :: r => uptoBulkEntry x + uptoBulkEntries r
def uptoBulkEntry {H : Type} : Lit × DataW H → Nat
  | (.string bytes, d) => bytes.length + uptoBulk d + 1
  | (_, d) => uptoBulk d + 1
 end
def uptoSmall : (H : Type) → List (DataW H) → Bool := fun _ ds => decide (uptoBulkAll ds ≤ 1048576)
def OpenSpec.upto (s : _root_.Go.ChangeSpec) : _root_.Go.OpenSpec := { _root_.Go.OpenSpec.ofChange s with cond := some uptoSmall }

/-- 'heliographlaw6.PolyTriangles', WHERE WHAT IT READS IS OF BULK AT MOST 1048576: true; the input reads as it did. -/
def polyTrianglesUptoRow : OpenClaim := { program := "ytcpnfafhekgabaa", sum := "3a406655394a65710209cd71ed9ca53bf5ab3fd65bae5a29f13183ff0de080af", func := "heliograph/heliographlaw6.PolyTriangles", spec := "polyTriangles", apart := false, narrowed := true }
def PolyTrianglesUptoSaid : Prop := polyTrianglesUptoRow.holds Try.pinned (OpenSpec.upto polyTrianglesSpec)

/-- 'heliographlaw6.PolyTells', WHERE WHAT IT READS IS OF BULK AT MOST 1048576: true; the input reads as it did. -/
def polyTellsUptoRow : OpenClaim := { program := "ytcpnfafhekgabaa", sum := "3a406655394a65710209cd71ed9ca53bf5ab3fd65bae5a29f13183ff0de080af", func := "heliograph/heliographlaw6.PolyTells", spec := "polyTells", apart := false, narrowed := true }
def PolyTellsUptoSaid : Prop := polyTellsUptoRow.holds Try.pinned (OpenSpec.upto polyTellsSpec)

/-- 'heliographlaw6.PolySure', WHERE WHAT IT READS IS OF BULK AT MOST 1048576: true; the input reads as it did. -/
def polySureUptoRow : OpenClaim := { program := "ytcpnfafhekgabaa", sum := "3a406655394a65710209cd71ed9ca53bf5ab3fd65bae5a29f13183ff0de080af", func := "heliograph/heliographlaw6.PolySure", spec := "polySure", apart := false, narrowed := true }
def PolySureUptoSaid : Prop := polySureUptoRow.holds Try.pinned (OpenSpec.upto polySureSpec)

/-- 'heliographlaw6.PolyTurns', WHERE WHAT IT READS IS OF BULK AT MOST 1048576: true; the input reads as it did. -/
def polyTurnsUptoRow : OpenClaim := { program := "ytcpnfafhekgabaa", sum := "3a406655394a65710209cd71ed9ca53bf5ab3fd65bae5a29f13183ff0de080af", func := "heliograph/heliographlaw6.PolyTurns", spec := "polyTurns", apart := false, narrowed := true }
def PolyTurnsUptoSaid : Prop := polyTurnsUptoRow.holds Try.pinned (OpenSpec.upto polyTurnsSpec)

/-- 'heliographlaw6.PolyOdd', WHERE WHAT IT READS IS OF BULK AT MOST 1048576: true; the input reads as it did. -/
def polyOddUptoRow : OpenClaim := { program := "ytcpnfafhekgabaa", sum := "3a406655394a65710209cd71ed9ca53bf5ab3fd65bae5a29f13183ff0de080af", func := "heliograph/heliographlaw6.PolyOdd", spec := "polyOdd", apart := false, narrowed := true }
def PolyOddUptoSaid : Prop := polyOddUptoRow.holds Try.pinned (OpenSpec.upto polyOddSpec)

end Rows
end Go.Proofs.Ytcpnfafhekgabaa
