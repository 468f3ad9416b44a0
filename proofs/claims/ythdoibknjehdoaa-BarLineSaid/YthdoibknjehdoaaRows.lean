/-
  No cell of these rows narrows 'for every input' (looked for: loops, veiled, ifaces, maps, wideKeys, modest, calm, conditions, laid).
  DERIVED. THE GIVEN ROWS OF THIS SEAT. 5 by the template 'for every input the law returns true; each argument reads behind the call as it read before'; 0 by the template 'total and deterministic' (their statements: YthdoibknjehdoaaTotals.lean).
  GIVEN WITH THE SEED: the statements are not yours to turn. If you find one false, say at which input.
  Laid BY PROGRAM, IN A SANDBOX (cutbox-rows.mjs): the forced cells as the released guide's own fill.sh prints them over the translation 573d603a848af99d… (all of the seat's roots in one cut). By AI agents, Wed Nov 11 2026. No macro, syntax, notation, axiom, sorry.
-/
import Derived.Test.YthdoibknjehdoaaChecked
import GoSem.Claim
import GoSem.ClaimJoined
import GoSem.ClaimMapViews
import Derived.JoinedTies
import Derived.KernelRfl
namespace Go.Proofs.Ythdoibknjehdoaa
/- THE CELL 'sum', in the pinned program and in every row, IS THE sha256 OF THE DUMP (.gsa) THAT YthdoibknjehdoaaProg.lean LOADS. Nothing in Lean hashes anything: it is a label: what it is worth is what the hold of that sum in a sandbox is worth. -/
noncomputable def Try.pinned : Pinned := { name := "ythdoibknjehdoaa", sum := "573d603a848af99d6411437657a16439241fb07ac4e9d53fee06c99450e324d4", checked := Try.checked }
namespace Rows
def none {H : Type} : Left H := { results := [], args := [] }

/-- 'heliographlaw8.BarParts': WHATEVER THE INPUT: true; the input reads as it did. -/
def barPartsSpec : ChangeSpec := { name := "barParts", fn := fun _ => fun
  | [d1, d2, d3, d4, d5, d6] => { results := [.lit (.bool true)], args := [d1, d2, d3, d4, d5, d6] }
  | _ => none }
def barPartsRow : OpenClaim := { program := "ythdoibknjehdoaa", sum := "573d603a848af99d6411437657a16439241fb07ac4e9d53fee06c99450e324d4", func := "heliograph/heliographlaw8.BarParts", spec := "barParts", apart := false }
def BarPartsSaid : Prop := barPartsRow.holds Try.pinned (OpenSpec.ofChange barPartsSpec)

/-- ITS FALSE NEIGHBOUR: 'it returns false'. Refute it at one input. -/
def barPartsWrong : ChangeSpec := { name := "barParts", fn := fun _ => fun
  | [d1, d2, d3, d4, d5, d6] => { results := [.lit (.bool false)], args := [d1, d2, d3, d4, d5, d6] }
  | _ => none }
def BarPartsWrongFalsely : Prop := barPartsRow.holds Try.pinned (OpenSpec.ofChange barPartsWrong)

/-- 'heliographlaw8.BarTells': WHATEVER THE INPUT: true; the input reads as it did. -/
def barTellsSpec : ChangeSpec := { name := "barTells", fn := fun _ => fun
  | [d1, d2, d3, d4, d5, d6] => { results := [.lit (.bool true)], args := [d1, d2, d3, d4, d5, d6] }
  | _ => none }
def barTellsRow : OpenClaim := { program := "ythdoibknjehdoaa", sum := "573d603a848af99d6411437657a16439241fb07ac4e9d53fee06c99450e324d4", func := "heliograph/heliographlaw8.BarTells", spec := "barTells", apart := false }
def BarTellsSaid : Prop := barTellsRow.holds Try.pinned (OpenSpec.ofChange barTellsSpec)

/-- ITS FALSE NEIGHBOUR: 'it returns false'. Refute it at one input. -/
def barTellsWrong : ChangeSpec := { name := "barTells", fn := fun _ => fun
  | [d1, d2, d3, d4, d5, d6] => { results := [.lit (.bool false)], args := [d1, d2, d3, d4, d5, d6] }
  | _ => none }
def BarTellsWrongFalsely : Prop := barTellsRow.holds Try.pinned (OpenSpec.ofChange barTellsWrong)

/-- 'heliographlaw8.BarSure': WHATEVER THE INPUT: true; the input reads as it did. -/
def barSureSpec : ChangeSpec := { name := "barSure", fn := fun _ => fun
  | [d1, d2, d3, d4, d5, d6, d7] => { results := [.lit (.bool true)], args := [d1, d2, d3, d4, d5, d6, d7] }
  | _ => none }
def barSureRow : OpenClaim := { program := "ythdoibknjehdoaa", sum := "573d603a848af99d6411437657a16439241fb07ac4e9d53fee06c99450e324d4", func := "heliograph/heliographlaw8.BarSure", spec := "barSure", apart := false }
def BarSureSaid : Prop := barSureRow.holds Try.pinned (OpenSpec.ofChange barSureSpec)

/-- ITS FALSE NEIGHBOUR: 'it returns false'. Refute it at one input. -/
def barSureWrong : ChangeSpec := { name := "barSure", fn := fun _ => fun
  | [d1, d2, d3, d4, d5, d6, d7] => { results := [.lit (.bool false)], args := [d1, d2, d3, d4, d5, d6, d7] }
  | _ => none }
def BarSureWrongFalsely : Prop := barSureRow.holds Try.pinned (OpenSpec.ofChange barSureWrong)

/-- 'heliographlaw8.BarLine': WHATEVER THE INPUT: true; the input reads as it did. -/
def barLineSpec : ChangeSpec := { name := "barLine", fn := fun _ => fun
  | [d1, d2, d3, d4] => { results := [.lit (.bool true)], args := [d1, d2, d3, d4] }
  | _ => none }
def barLineRow : OpenClaim := { program := "ythdoibknjehdoaa", sum := "573d603a848af99d6411437657a16439241fb07ac4e9d53fee06c99450e324d4", func := "heliograph/heliographlaw8.BarLine", spec := "barLine", apart := false }
def BarLineSaid : Prop := barLineRow.holds Try.pinned (OpenSpec.ofChange barLineSpec)

/-- ITS FALSE NEIGHBOUR: 'it returns false'. Refute it at one input. -/
def barLineWrong : ChangeSpec := { name := "barLine", fn := fun _ => fun
  | [d1, d2, d3, d4] => { results := [.lit (.bool false)], args := [d1, d2, d3, d4] }
  | _ => none }
def BarLineWrongFalsely : Prop := barLineRow.holds Try.pinned (OpenSpec.ofChange barLineWrong)

/-- 'heliographlaw8.BarStraight': WHATEVER THE INPUT: true; the input reads as it did. -/
def barStraightSpec : ChangeSpec := { name := "barStraight", fn := fun _ => fun
  | [d1, d2, d3, d4] => { results := [.lit (.bool true)], args := [d1, d2, d3, d4] }
  | _ => none }
def barStraightRow : OpenClaim := { program := "ythdoibknjehdoaa", sum := "573d603a848af99d6411437657a16439241fb07ac4e9d53fee06c99450e324d4", func := "heliograph/heliographlaw8.BarStraight", spec := "barStraight", apart := false }
def BarStraightSaid : Prop := barStraightRow.holds Try.pinned (OpenSpec.ofChange barStraightSpec)

/-- ITS FALSE NEIGHBOUR: 'it returns false'. Refute it at one input. -/
def barStraightWrong : ChangeSpec := { name := "barStraight", fn := fun _ => fun
  | [d1, d2, d3, d4] => { results := [.lit (.bool false)], args := [d1, d2, d3, d4] }
  | _ => none }
def BarStraightWrongFalsely : Prop := barStraightRow.holds Try.pinned (OpenSpec.ofChange barStraightWrong)

/- THE SECOND FORM. 'bulk': how many values and letters a reading holds, each counted each time it is reached (what is shared counts as often as it is met; a slice's spare places count too). A statement '..UptoSaid' is the law's where the arguments, and the package variables that the reading takes, are together of bulk at most 1048576: NARROWER than '..Said'. Prove '..Said' where nothing that the law and all that it calls make is longer than what came in: it says more and counts as full. Else prove '..UptoSaid'. A law counts once. -/
mutual
def uptoBulk {H : Type} : DataW H → Nat
  | .lit (.string bytes) => bytes.length + 1
  | .lit _ => 1
  | .nil => 1
  | .ptr d => uptoBulk d + 1
  | .slice elems spare => uptoBulkAll elems + uptoBulkAll spare + 1
  | .agg parts => uptoBulkAll parts + 1
  | .iface _ d => uptoBulk d + 1
  | .map entries => uptoBulkEntries entries + 1
  | .held _ => 1
def uptoBulkAll {H : Type} : List (DataW H) → Nat
  | [] => 0
  | d :: r => uptoBulk d + uptoBulkAll r
def uptoBulkEntries {H : Type} : List (Lit × DataW H) → Nat
  | [] => 0
  | x :: r => uptoBulkEntry x + uptoBulkEntries r
def uptoBulkEntry {H : Type} : Lit × DataW H → Nat
  | (.string bytes, d) => bytes.length + uptoBulk d + 1
  | (_, d) => uptoBulk d + 1
 end
def uptoSmall : (H : Type) → List (DataW H) → Bool := fun _ ds => decide (uptoBulkAll ds ≤ 1048576)
def OpenSpec.upto (s : _root_.Go.ChangeSpec) : _root_.Go.OpenSpec := { _root_.Go.OpenSpec.ofChange s with cond := some uptoSmall }

/-- 'heliographlaw8.BarParts', WHERE WHAT IT READS IS OF BULK AT MOST 1048576: true; the input reads as it did. -/
def barPartsUptoRow : OpenClaim := { program := "ythdoibknjehdoaa", sum := "573d603a848af99d6411437657a16439241fb07ac4e9d53fee06c99450e324d4", func := "heliograph/heliographlaw8.BarParts", spec := "barParts", apart := false, narrowed := true }
def BarPartsUptoSaid : Prop := barPartsUptoRow.holds Try.pinned (OpenSpec.upto barPartsSpec)

/-- 'heliographlaw8.BarTells', WHERE WHAT IT READS IS OF BULK AT MOST 1048576: true; the input reads as it did. -/
def barTellsUptoRow : OpenClaim := { program := "ythdoibknjehdoaa", sum := "573d603a848af99d6411437657a16439241fb07ac4e9d53fee06c99450e324d4", func := "heliograph/heliographlaw8.BarTells", spec := "barTells", apart := false, narrowed := true }
def BarTellsUptoSaid : Prop := barTellsUptoRow.holds Try.pinned (OpenSpec.upto barTellsSpec)

/-- 'heliographlaw8.BarSure', WHERE WHAT IT READS IS OF BULK AT MOST 1048576: true; the input reads as it did. -/
def barSureUptoRow : OpenClaim := { program := "ythdoibknjehdoaa", sum := "573d603a848af99d6411437657a16439241fb07ac4e9d53fee06c99450e324d4", func := "heliograph/heliographlaw8.BarSure", spec := "barSure", apart := false, narrowed := true }
def BarSureUptoSaid : Prop := barSureUptoRow.holds Try.pinned (OpenSpec.upto barSureSpec)

/-- 'heliographlaw8.BarLine', WHERE WHAT IT READS IS OF BULK AT MOST 1048576: true; the input reads as it did. -/
def barLineUptoRow : OpenClaim := { program := "ythdoibknjehdoaa", sum := "573d603a848af99d6411437657a16439241fb07ac4e9d53fee06c99450e324d4", func := "heliograph/heliographlaw8.BarLine", spec := "barLine", apart := false, narrowed := true }
def BarLineUptoSaid : Prop := barLineUptoRow.holds Try.pinned (OpenSpec.upto barLineSpec)

/-- 'heliographlaw8.BarStraight', WHERE WHAT IT READS IS OF BULK AT MOST 1048576: true; the input reads as it did. -/
def barStraightUptoRow : OpenClaim := { program := "ythdoibknjehdoaa", sum := "573d603a848af99d6411437657a16439241fb07ac4e9d53fee06c99450e324d4", func := "heliograph/heliographlaw8.BarStraight", spec := "barStraight", apart := false, narrowed := true }
def BarStraightUptoSaid : Prop := barStraightUptoRow.holds Try.pinned (OpenSpec.upto barStraightSpec)

end Rows
end Go.Proofs.Ythdoibknjehdoaa
