/-
  No cell of these rows narrows 'for every input' (looked for: loops, veiled, ifaces, maps, wideKeys, modest, calm, conditions, laid).
  DERIVED. THE GIVEN ROWS OF THIS SEAT. 5 by the template 'for every input the law returns true; each argument reads behind the call as it read before'; 0 by the template 'total and deterministic' (their statements: YtfknddjclkjhoaaTotals.lean).
  GIVEN WITH THE SEED: the statements are not yours to turn. If you find one false, say at which input.
  Laid BY PROGRAM, IN A SANDBOX (cutbox-rows.mjs): the forced cells as the released guide's own fill.sh prints them over the translation 83f21b6b89623f18… (all of the seat's roots in one cut). By AI agents, Wed Nov 11 2026. No macro, syntax, notation, axiom, sorry.
-/
import Derived.Test.YtfknddjclkjhoaaChecked
import GoSem.Claim
import GoSem.ClaimJoined
import GoSem.ClaimMapViews
import Derived.JoinedTies
import Derived.KernelRfl
namespace Go.Proofs.Ytfknddjclkjhoaa
/- THE CELL 'sum', in the pinned program and in every row, IS THE sha256 OF THE DUMP (.gsa) THAT YtfknddjclkjhoaaProg.lean LOADS. Nothing in Lean hashes anything: it is a label: what it is worth is what the hold of that sum in a sandbox is worth. -/
noncomputable def Try.pinned : Pinned := { name := "ytfknddjclkjhoaa", sum := "83f21b6b89623f187bc62c46916caa14594981b8f5336c7db38a41485db54e0e", checked := Try.checked }
namespace Rows
def none {H : Type} : Left H := { results := [], args := [] }

/-- 'heliographlaw7.LineThick': WHATEVER THE INPUT: true; the input reads as it did. -/
def lineThickSpec : ChangeSpec := { name := "lineThick", fn := fun _ => fun
  | [d1, d2, d3, d4, d5, d6] => { results := [.lit (.bool true)], args := [d1, d2, d3, d4, d5, d6] }
  | _ => none }
def lineThickRow : OpenClaim := { program := "ytfknddjclkjhoaa", sum := "83f21b6b89623f187bc62c46916caa14594981b8f5336c7db38a41485db54e0e", func := "heliograph/heliographlaw7.LineThick", spec := "lineThick", apart := false }
def LineThickSaid : Prop := lineThickRow.holds Try.pinned (OpenSpec.ofChange lineThickSpec)

/-- ITS FALSE NEIGHBOUR: 'it returns false'. Refute it at one input. -/
def lineThickWrong : ChangeSpec := { name := "lineThick", fn := fun _ => fun
  | [d1, d2, d3, d4, d5, d6] => { results := [.lit (.bool false)], args := [d1, d2, d3, d4, d5, d6] }
  | _ => none }
def LineThickWrongFalsely : Prop := lineThickRow.holds Try.pinned (OpenSpec.ofChange lineThickWrong)

/-- 'heliographlaw7.LineTells': WHATEVER THE INPUT: true; the input reads as it did. -/
def lineTellsSpec : ChangeSpec := { name := "lineTells", fn := fun _ => fun
  | [d1, d2, d3, d4, d5, d6] => { results := [.lit (.bool true)], args := [d1, d2, d3, d4, d5, d6] }
  | _ => none }
def lineTellsRow : OpenClaim := { program := "ytfknddjclkjhoaa", sum := "83f21b6b89623f187bc62c46916caa14594981b8f5336c7db38a41485db54e0e", func := "heliograph/heliographlaw7.LineTells", spec := "lineTells", apart := false }
def LineTellsSaid : Prop := lineTellsRow.holds Try.pinned (OpenSpec.ofChange lineTellsSpec)

/-- ITS FALSE NEIGHBOUR: 'it returns false'. Refute it at one input. -/
def lineTellsWrong : ChangeSpec := { name := "lineTells", fn := fun _ => fun
  | [d1, d2, d3, d4, d5, d6] => { results := [.lit (.bool false)], args := [d1, d2, d3, d4, d5, d6] }
  | _ => none }
def LineTellsWrongFalsely : Prop := lineTellsRow.holds Try.pinned (OpenSpec.ofChange lineTellsWrong)

/-- 'heliographlaw7.LineSure': WHATEVER THE INPUT: true; the input reads as it did. -/
def lineSureSpec : ChangeSpec := { name := "lineSure", fn := fun _ => fun
  | [d1, d2, d3, d4, d5, d6, d7] => { results := [.lit (.bool true)], args := [d1, d2, d3, d4, d5, d6, d7] }
  | _ => none }
def lineSureRow : OpenClaim := { program := "ytfknddjclkjhoaa", sum := "83f21b6b89623f187bc62c46916caa14594981b8f5336c7db38a41485db54e0e", func := "heliograph/heliographlaw7.LineSure", spec := "lineSure", apart := false }
def LineSureSaid : Prop := lineSureRow.holds Try.pinned (OpenSpec.ofChange lineSureSpec)

/-- ITS FALSE NEIGHBOUR: 'it returns false'. Refute it at one input. -/
def lineSureWrong : ChangeSpec := { name := "lineSure", fn := fun _ => fun
  | [d1, d2, d3, d4, d5, d6, d7] => { results := [.lit (.bool false)], args := [d1, d2, d3, d4, d5, d6, d7] }
  | _ => none }
def LineSureWrongFalsely : Prop := lineSureRow.holds Try.pinned (OpenSpec.ofChange lineSureWrong)

/-- 'heliographlaw7.LineMeans': WHATEVER THE INPUT: true; the input reads as it did. -/
def lineMeansSpec : ChangeSpec := { name := "lineMeans", fn := fun _ => fun
  | [d1, d2, d3, d4, d5, d6] => { results := [.lit (.bool true)], args := [d1, d2, d3, d4, d5, d6] }
  | _ => none }
def lineMeansRow : OpenClaim := { program := "ytfknddjclkjhoaa", sum := "83f21b6b89623f187bc62c46916caa14594981b8f5336c7db38a41485db54e0e", func := "heliograph/heliographlaw7.LineMeans", spec := "lineMeans", apart := false }
def LineMeansSaid : Prop := lineMeansRow.holds Try.pinned (OpenSpec.ofChange lineMeansSpec)

/-- ITS FALSE NEIGHBOUR: 'it returns false'. Refute it at one input. -/
def lineMeansWrong : ChangeSpec := { name := "lineMeans", fn := fun _ => fun
  | [d1, d2, d3, d4, d5, d6] => { results := [.lit (.bool false)], args := [d1, d2, d3, d4, d5, d6] }
  | _ => none }
def LineMeansWrongFalsely : Prop := lineMeansRow.holds Try.pinned (OpenSpec.ofChange lineMeansWrong)

/-- 'heliographlaw7.LineStraight': WHATEVER THE INPUT: true; the input reads as it did. -/
def lineStraightSpec : ChangeSpec := { name := "lineStraight", fn := fun _ => fun
  | [d1, d2, d3, d4] => { results := [.lit (.bool true)], args := [d1, d2, d3, d4] }
  | _ => none }
def lineStraightRow : OpenClaim := { program := "ytfknddjclkjhoaa", sum := "83f21b6b89623f187bc62c46916caa14594981b8f5336c7db38a41485db54e0e", func := "heliograph/heliographlaw7.LineStraight", spec := "lineStraight", apart := false }
def LineStraightSaid : Prop := lineStraightRow.holds Try.pinned (OpenSpec.ofChange lineStraightSpec)

/-- ITS FALSE NEIGHBOUR: 'it returns false'. Refute it at one input. -/
def lineStraightWrong : ChangeSpec := { name := "lineStraight", fn := fun _ => fun
  | [d1, d2, d3, d4] => { results := [.lit (.bool false)], args := [d1, d2, d3, d4] }
  | _ => none }
def LineStraightWrongFalsely : Prop := lineStraightRow.holds Try.pinned (OpenSpec.ofChange lineStraightWrong)

/- THE SECOND FORM. 'bulk': how many values and letters a reading holds, each counted each time it is reached (what is shared counts as often as it is met; a slice's spare places count too). A statement '..UptoSaid' is the law's where the arguments, and the package variables that the reading takes, are together of bulk at most 1048576: NARROWER than '..Said'. Prove '..Said' where nothing that the law and all that it calls make is longer than what came in: it says more and counts as full. Else prove '..UptoSaid'. A law counts once. -/
mutual
def uptoBulk {H : Type} : DataW H → Nat
  | .lit (.string bytes) => bytes.length + 1
  | .lit _ => 1
  | .nil => 1
  | .ptr d => uptoBulk d + 1
  | .slice elems spare => uptoBulkAll elems + uptoBulkAll spare + 1
  | .agg parts => uptoBulkAll parts + 1
  | .iface _ d => uptoBulk d + 1
  | .map entries => uptoBulkEntries entries + 1
  | .held _ => 1
def uptoBulkAll {H : Type} : List (DataW H) → Nat
  | [] => 0
  | d :: r => uptoBulk d + uptoBulkAll r
def uptoBulkEntries {H : Type} : List (Lit × DataW H) → Nat
  | [] => 0
  | x :: r => uptoBulkEntry x + uptoBulkEntries r
def uptoBulkEntry {H : Type} : Lit × DataW H → Nat
  | (.string bytes, d) => bytes.length + uptoBulk d + 1
  | (_, d) => uptoBulk d + 1
 end
def uptoSmall : (H : Type) → List (DataW H) → Bool := fun _ ds => decide (uptoBulkAll ds ≤ 1048576)
def OpenSpec.upto (s : _root_.Go.ChangeSpec) : _root_.Go.OpenSpec := { _root_.Go.OpenSpec.ofChange s with cond := some uptoSmall }

/-- 'heliographlaw7.LineThick', WHERE WHAT IT READS IS OF BULK AT MOST 1048576: true; the input reads as it did. -/
def lineThickUptoRow : OpenClaim := { program := "ytfknddjclkjhoaa", sum := "83f21b6b89623f187bc62c46916caa14594981b8f5336c7db38a41485db54e0e", func := "heliograph/heliographlaw7.LineThick", spec := "lineThick", apart := false, narrowed := true }
def LineThickUptoSaid : Prop := lineThickUptoRow.holds Try.pinned (OpenSpec.upto lineThickSpec)

/-- 'heliographlaw7.LineTells', WHERE WHAT IT READS IS OF BULK AT MOST 1048576: true; the input reads as it did. -/
def lineTellsUptoRow : OpenClaim := { program := "ytfknddjclkjhoaa", sum := "83f21b6b89623f187bc62c46916caa14594981b8f5336c7db38a41485db54e0e", func := "heliograph/heliographlaw7.LineTells", spec := "lineTells", apart := false, narrowed := true }
def LineTellsUptoSaid : Prop := lineTellsUptoRow.holds Try.pinned (OpenSpec.upto lineTellsSpec)

/-- 'heliographlaw7.LineSure', WHERE WHAT IT READS IS OF BULK AT MOST 1048576: true; the input reads as it did. -/
def lineSureUptoRow : OpenClaim := { program := "ytfknddjclkjhoaa", sum := "83f21b6b89623f187bc62c46916caa14594981b8f5336c7db38a41485db54e0e", func := "heliograph/heliographlaw7.LineSure", spec := "lineSure", apart := false, narrowed := true }
def LineSureUptoSaid : Prop := lineSureUptoRow.holds Try.pinned (OpenSpec.upto lineSureSpec)

/-- 'heliographlaw7.LineMeans', WHERE WHAT IT READS IS OF BULK AT MOST 1048576: true; the input reads as it did. -/
def lineMeansUptoRow : OpenClaim := { program := "ytfknddjclkjhoaa", sum := "83f21b6b89623f187bc62c46916caa14594981b8f5336c7db38a41485db54e0e", func := "heliograph/heliographlaw7.LineMeans", spec := "lineMeans", apart := false, narrowed := true }
def LineMeansUptoSaid : Prop := lineMeansUptoRow.holds Try.pinned (OpenSpec.upto lineMeansSpec)

/-- 'heliographlaw7.LineStraight', WHERE WHAT IT READS IS OF BULK AT MOST 1048576: true; the input reads as it did. -/
def lineStraightUptoRow : OpenClaim := { program := "ytfknddjclkjhoaa", sum := "83f21b6b89623f187bc62c46916caa14594981b8f5336c7db38a41485db54e0e", func := "heliograph/heliographlaw7.LineStraight", spec := "lineStraight", apart := false, narrowed := true }
def LineStraightUptoSaid : Prop := lineStraightUptoRow.holds Try.pinned (OpenSpec.upto lineStraightSpec)

end Rows
end Go.Proofs.Ytfknddjclkjhoaa
