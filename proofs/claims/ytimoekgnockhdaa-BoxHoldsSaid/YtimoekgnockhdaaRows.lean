/-
  No cell of these rows narrows 'for every input' (looked for: loops, veiled, ifaces, maps, wideKeys, modest, calm, conditions, laid).
  DERIVED. THE GIVEN ROWS OF THIS SEAT. 5 by the template 'for every input the law returns true; each argument reads behind the call as it read before'; 0 by the template 'total and deterministic' (their statements: YtimoekgnockhdaaTotals.lean).
  GIVEN WITH THE SEED: the statements are not yours to turn. If you find one false, say at which input.
  Laid BY PROGRAM, IN A SANDBOX (cutbox-rows.mjs): the forced cells as the released guide's own fill.sh prints them over the translation 1e5aec232d521cba… (all of the seat's roots in one cut). By AI agents, Wed Nov 11 2026. No macro, syntax, notation, axiom, sorry.
-/
import Derived.Test.YtimoekgnockhdaaChecked
import GoSem.Claim
import GoSem.ClaimJoined
import GoSem.ClaimMapViews
import Derived.JoinedTies
import Derived.KernelRfl
namespace Go.Proofs.Ytimoekgnockhdaa
/- THE CELL 'sum', in the pinned program and in every row, IS THE sha256 OF THE DUMP (.gsa) THAT YtimoekgnockhdaaProg.lean LOADS. Nothing in Lean hashes anything: it is a label: what it is worth is what the hold of that sum in a sandbox is worth. -/
noncomputable def Try.pinned : Pinned := { name := "ytimoekgnockhdaa", sum := "1e5aec232d521cba74d49bb47d629cb1355c8d79d351fc3bfde2042d1abb5204", checked := Try.checked }
namespace Rows
def none {H : Type} : Left H := { results := [], args := [] }

/-- 'heliographlaw4.BoxApart': WHATEVER THE INPUT: true; the input reads as it did. -/
def boxApartSpec : ChangeSpec := { name := "boxApart", fn := fun _ => fun
  | [d1, d2] => { results := [.lit (.bool true)], args := [d1, d2] }
  | _ => none }
def boxApartRow : OpenClaim := { program := "ytimoekgnockhdaa", sum := "1e5aec232d521cba74d49bb47d629cb1355c8d79d351fc3bfde2042d1abb5204", func := "heliograph/heliographlaw4.BoxApart", spec := "boxApart", apart := false }
def BoxApartSaid : Prop := boxApartRow.holds Try.pinned (OpenSpec.ofChange boxApartSpec)

/-- ITS FALSE NEIGHBOUR: 'it returns false'. Refute it at one input. -/
def boxApartWrong : ChangeSpec := { name := "boxApart", fn := fun _ => fun
  | [d1, d2] => { results := [.lit (.bool false)], args := [d1, d2] }
  | _ => none }
def BoxApartWrongFalsely : Prop := boxApartRow.holds Try.pinned (OpenSpec.ofChange boxApartWrong)

/-- 'heliographlaw4.BoxGreat': WHATEVER THE INPUT: true; the input reads as it did. -/
def boxGreatSpec : ChangeSpec := { name := "boxGreat", fn := fun _ => fun
  | [d1, d2] => { results := [.lit (.bool true)], args := [d1, d2] }
  | _ => none }
def boxGreatRow : OpenClaim := { program := "ytimoekgnockhdaa", sum := "1e5aec232d521cba74d49bb47d629cb1355c8d79d351fc3bfde2042d1abb5204", func := "heliograph/heliographlaw4.BoxGreat", spec := "boxGreat", apart := false }
def BoxGreatSaid : Prop := boxGreatRow.holds Try.pinned (OpenSpec.ofChange boxGreatSpec)

/-- ITS FALSE NEIGHBOUR: 'it returns false'. Refute it at one input. -/
def boxGreatWrong : ChangeSpec := { name := "boxGreat", fn := fun _ => fun
  | [d1, d2] => { results := [.lit (.bool false)], args := [d1, d2] }
  | _ => none }
def BoxGreatWrongFalsely : Prop := boxGreatRow.holds Try.pinned (OpenSpec.ofChange boxGreatWrong)

/-- 'heliographlaw4.BoxTells': WHATEVER THE INPUT: true; the input reads as it did. -/
def boxTellsSpec : ChangeSpec := { name := "boxTells", fn := fun _ => fun
  | [d1, d2, d3, d4, d5, d6, d7] => { results := [.lit (.bool true)], args := [d1, d2, d3, d4, d5, d6, d7] }
  | _ => none }
def boxTellsRow : OpenClaim := { program := "ytimoekgnockhdaa", sum := "1e5aec232d521cba74d49bb47d629cb1355c8d79d351fc3bfde2042d1abb5204", func := "heliograph/heliographlaw4.BoxTells", spec := "boxTells", apart := false }
def BoxTellsSaid : Prop := boxTellsRow.holds Try.pinned (OpenSpec.ofChange boxTellsSpec)

/-- ITS FALSE NEIGHBOUR: 'it returns false'. Refute it at one input. -/
def boxTellsWrong : ChangeSpec := { name := "boxTells", fn := fun _ => fun
  | [d1, d2, d3, d4, d5, d6, d7] => { results := [.lit (.bool false)], args := [d1, d2, d3, d4, d5, d6, d7] }
  | _ => none }
def BoxTellsWrongFalsely : Prop := boxTellsRow.holds Try.pinned (OpenSpec.ofChange boxTellsWrong)

/-- 'heliographlaw4.BoxHolds': WHATEVER THE INPUT: true; the input reads as it did. -/
def boxHoldsSpec : ChangeSpec := { name := "boxHolds", fn := fun _ => fun
  | [d1, d2, d3, d4] => { results := [.lit (.bool true)], args := [d1, d2, d3, d4] }
  | _ => none }
def boxHoldsRow : OpenClaim := { program := "ytimoekgnockhdaa", sum := "1e5aec232d521cba74d49bb47d629cb1355c8d79d351fc3bfde2042d1abb5204", func := "heliograph/heliographlaw4.BoxHolds", spec := "boxHolds", apart := false }
def BoxHoldsSaid : Prop := boxHoldsRow.holds Try.pinned (OpenSpec.ofChange boxHoldsSpec)

/-- ITS FALSE NEIGHBOUR: 'it returns false'. Refute it at one input. -/
def boxHoldsWrong : ChangeSpec := { name := "boxHolds", fn := fun _ => fun
  | [d1, d2, d3, d4] => { results := [.lit (.bool false)], args := [d1, d2, d3, d4] }
  | _ => none }
def BoxHoldsWrongFalsely : Prop := boxHoldsRow.holds Try.pinned (OpenSpec.ofChange boxHoldsWrong)

/-- 'heliographlaw4.BoxCrosses': WHATEVER THE INPUT: true; the input reads as it did. -/
def boxCrossesSpec : ChangeSpec := { name := "boxCrosses", fn := fun _ => fun
  | [d1, d2, d3] => { results := [.lit (.bool true)], args := [d1, d2, d3] }
  | _ => none }
def boxCrossesRow : OpenClaim := { program := "ytimoekgnockhdaa", sum := "1e5aec232d521cba74d49bb47d629cb1355c8d79d351fc3bfde2042d1abb5204", func := "heliograph/heliographlaw4.BoxCrosses", spec := "boxCrosses", apart := false }
def BoxCrossesSaid : Prop := boxCrossesRow.holds Try.pinned (OpenSpec.ofChange boxCrossesSpec)

/-- ITS FALSE NEIGHBOUR: 'it returns false'. Refute it at one input. -/
def boxCrossesWrong : ChangeSpec := { name := "boxCrosses", fn := fun _ => fun
  | [d1, d2, d3] => { results := [.lit (.bool false)], args := [d1, d2, d3] }
  | _ => none }
def BoxCrossesWrongFalsely : Prop := boxCrossesRow.holds Try.pinned (OpenSpec.ofChange boxCrossesWrong)

/- THE SECOND FORM. 'bulk': how many values and letters a reading holds, each counted each time it is reached (what is shared counts as often as it is met; a slice's spare places count too). A statement '..UptoSaid' is the law's where the arguments, and the package variables that the reading takes, are together of bulk at most 1048576: NARROWER than '..Said'. Prove '..Said' where nothing that the law and all that it calls make is longer than what came in: it says more and counts as full. Else prove '..UptoSaid'. A law counts once. -/
mutual
def uptoBulk {H : Type} : DataW H → Nat
  | .lit (.string bytes) => bytes.length + 1
  | .lit _ => 1
  | .nil => 1
  | .ptr d => uptoBulk d + 1
  | .slice elems spare => uptoBulkAll elems + uptoBulkAll spare + 1
  | .agg parts => uptoBulkAll parts + 1
  | .iface _ d => uptoBulk d + 1
  | .map entries => uptoBulkEntries entries + 1
  | .held _ => 1
def uptoBulkAll {H : Type} : List (DataW H) → Nat
  | [] => 0
  | d :: r => uptoBulk d + uptoBulkAll r
def uptoBulkEntries {H : Type} : List (Lit × DataW H) → Nat
  | [] => 0
  | x :: r => uptoBulkEntry x + uptoBulkEntries r
def uptoBulkEntry {H : Type} : Lit × DataW H → Nat
  | (.string bytes, d) => bytes.length + uptoBulk d + 1
  | (_, d) => uptoBulk d + 1
 end
def uptoSmall : (H : Type) → List (DataW H) → Bool := fun _ ds => decide (uptoBulkAll ds ≤ 1048576)
def OpenSpec.upto (s : _root_.Go.ChangeSpec) : _root_.Go.OpenSpec := { _root_.Go.OpenSpec.ofChange s with cond := some uptoSmall }

/-- 'heliographlaw4.BoxApart', WHERE WHAT IT READS IS OF BULK AT MOST 1048576: true; the input reads as it did. -/
def boxApartUptoRow : OpenClaim := { program := "ytimoekgnockhdaa", sum := "1e5aec232d521cba74d49bb47d629cb1355c8d79d351fc3bfde2042d1abb5204", func := "heliograph/heliographlaw4.BoxApart", spec := "boxApart", apart := false, narrowed := true }
def BoxApartUptoSaid : Prop := boxApartUptoRow.holds Try.pinned (OpenSpec.upto boxApartSpec)

/-- 'heliographlaw4.BoxGreat', WHERE WHAT IT READS IS OF BULK AT MOST 1048576: true; the input reads as it did. -/
def boxGreatUptoRow : OpenClaim := { program := "ytimoekgnockhdaa", sum := "1e5aec232d521cba74d49bb47d629cb1355c8d79d351fc3bfde2042d1abb5204", func := "heliograph/heliographlaw4.BoxGreat", spec := "boxGreat", apart := false, narrowed := true }
def BoxGreatUptoSaid : Prop := boxGreatUptoRow.holds Try.pinned (OpenSpec.upto boxGreatSpec)

/-- 'heliographlaw4.BoxTells', WHERE WHAT IT READS IS OF BULK AT MOST 1048576: true; the input reads as it did. -/
def boxTellsUptoRow : OpenClaim := { program := "ytimoekgnockhdaa", sum := "1e5aec232d521cba74d49bb47d629cb1355c8d79d351fc3bfde2042d1abb5204", func := "heliograph/heliographlaw4.BoxTells", spec := "boxTells", apart := false, narrowed := true }
def BoxTellsUptoSaid : Prop := boxTellsUptoRow.holds Try.pinned (OpenSpec.upto boxTellsSpec)

/-- 'heliographlaw4.BoxHolds', WHERE WHAT IT READS IS OF BULK AT MOST 1048576: true; the input reads as it did. -/
def boxHoldsUptoRow : OpenClaim := { program := "ytimoekgnockhdaa", sum := "1e5aec232d521cba74d49bb47d629cb1355c8d79d351fc3bfde2042d1abb5204", func := "heliograph/heliographlaw4.BoxHolds", spec := "boxHolds", apart := false, narrowed := true }
def BoxHoldsUptoSaid : Prop := boxHoldsUptoRow.holds Try.pinned (OpenSpec.upto boxHoldsSpec)

/-- 'heliographlaw4.BoxCrosses', WHERE WHAT IT READS IS OF BULK AT MOST 1048576: true; the input reads as it did. -/
def boxCrossesUptoRow : OpenClaim := { program := "ytimoekgnockhdaa", sum := "1e5aec232d521cba74d49bb47d629cb1355c8d79d351fc3bfde2042d1abb5204", func := "heliograph/heliographlaw4.BoxCrosses", spec := "boxCrosses", apart := false, narrowed := true }
def BoxCrossesUptoSaid : Prop := boxCrossesUptoRow.holds Try.pinned (OpenSpec.upto boxCrossesSpec)

end Rows
end Go.Proofs.Ytimoekgnockhdaa
