/-
  No cell of these rows narrows 'for every input' (looked for: loops, veiled, ifaces, maps, wideKeys, modest, calm, conditions, laid).
  DERIVED. THE GIVEN ROWS OF THIS SEAT. 5 by the template 'for every input the law returns true; each argument reads behind the call as it read before'; 0 by the template 'total and deterministic' (their statements: YtoofbbmddddlcaaTotals.lean).
  GIVEN WITH THE SEED: the statements are not yours to turn. If you find one false, say at which input.
  Laid BY PROGRAM, IN A SANDBOX (cutbox-rows.mjs): the forced cells as the released guide's own fill.sh prints them over the translation 8ce71f6f1bb1f0ea… (all of the seat's roots in one cut). By AI agents, Wed Nov 11 2026. No macro, syntax, notation, axiom, sorry.
-/
import Derived.Test.YtoofbbmddddlcaaChecked
import GoSem.Claim
import GoSem.ClaimJoined
import GoSem.ClaimMapViews
import Derived.JoinedTies
import Derived.KernelRfl
namespace Go.Proofs.Ytoofbbmddddlcaa
/- THE CELL 'sum', in the pinned program and in every row, IS THE sha256 OF THE DUMP (.gsa) THAT YtoofbbmddddlcaaProg.lean LOADS. Nothing in Lean hashes anything: it is a label: what it is worth is what the hold of that sum in a sandbox is worth. -/
noncomputable def Try.pinned : Pinned := { name := "ytoofbbmddddlcaa", sum := "8ce71f6f1bb1f0ea4ee9917f93f51da79b3424b7252bc24fbb0771823923e0ad", checked := Try.checked }
namespace Rows
def none {H : Type} : Left H := { results := [], args := [] }

/-- 'heliographlaw9.RingMoves': WHATEVER THE INPUT: true; the input reads as it did. -/
def ringMovesSpec : ChangeSpec := { name := "ringMoves", fn := fun _ => fun
  | [d1, d2, d3, d4, d5, d6, d7, d8, d9] => { results := [.lit (.bool true)], args := [d1, d2, d3, d4, d5, d6, d7, d8, d9] }
  | _ => none }
def ringMovesRow : OpenClaim := { program := "ytoofbbmddddlcaa", sum := "8ce71f6f1bb1f0ea4ee9917f93f51da79b3424b7252bc24fbb0771823923e0ad", func := "heliograph/heliographlaw9.RingMoves", spec := "ringMoves", unfollowed := true, recurses := true, apart := false }
def RingMovesSaid : Prop := ringMovesRow.holds Try.pinned (OpenSpec.ofChange ringMovesSpec)

/-- ITS FALSE NEIGHBOUR: 'it returns false'. Refute it at one input. -/
def ringMovesWrong : ChangeSpec := { name := "ringMoves", fn := fun _ => fun
  | [d1, d2, d3, d4, d5, d6, d7, d8, d9] => { results := [.lit (.bool false)], args := [d1, d2, d3, d4, d5, d6, d7, d8, d9] }
  | _ => none }
def RingMovesWrongFalsely : Prop := ringMovesRow.holds Try.pinned (OpenSpec.ofChange ringMovesWrong)

/-- 'heliographlaw9.RingTells': WHATEVER THE INPUT: true; the input reads as it did. -/
def ringTellsSpec : ChangeSpec := { name := "ringTells", fn := fun _ => fun
  | [d1, d2, d3, d4, d5, d6, d7, d8, d9, d10] => { results := [.lit (.bool true)], args := [d1, d2, d3, d4, d5, d6, d7, d8, d9, d10] }
  | _ => none }
def ringTellsRow : OpenClaim := { program := "ytoofbbmddddlcaa", sum := "8ce71f6f1bb1f0ea4ee9917f93f51da79b3424b7252bc24fbb0771823923e0ad", func := "heliograph/heliographlaw9.RingTells", spec := "ringTells", apart := false }
def RingTellsSaid : Prop := ringTellsRow.holds Try.pinned (OpenSpec.ofChange ringTellsSpec)

/-- ITS FALSE NEIGHBOUR: 'it returns false'. Refute it at one input. -/
def ringTellsWrong : ChangeSpec := { name := "ringTells", fn := fun _ => fun
  | [d1, d2, d3, d4, d5, d6, d7, d8, d9, d10] => { results := [.lit (.bool false)], args := [d1, d2, d3, d4, d5, d6, d7, d8, d9, d10] }
  | _ => none }
def RingTellsWrongFalsely : Prop := ringTellsRow.holds Try.pinned (OpenSpec.ofChange ringTellsWrong)

/-- 'heliographlaw9.RingSure': WHATEVER THE INPUT: true; the input reads as it did. -/
def ringSureSpec : ChangeSpec := { name := "ringSure", fn := fun _ => fun
  | [d1, d2, d3, d4, d5, d6, d7, d8, d9] => { results := [.lit (.bool true)], args := [d1, d2, d3, d4, d5, d6, d7, d8, d9] }
  | _ => none }
def ringSureRow : OpenClaim := { program := "ytoofbbmddddlcaa", sum := "8ce71f6f1bb1f0ea4ee9917f93f51da79b3424b7252bc24fbb0771823923e0ad", func := "heliograph/heliographlaw9.RingSure", spec := "ringSure", apart := false }
def RingSureSaid : Prop := ringSureRow.holds Try.pinned (OpenSpec.ofChange ringSureSpec)

/-- ITS FALSE NEIGHBOUR: 'it returns false'. Refute it at one input. -/
def ringSureWrong : ChangeSpec := { name := "ringSure", fn := fun _ => fun
  | [d1, d2, d3, d4, d5, d6, d7, d8, d9] => { results := [.lit (.bool false)], args := [d1, d2, d3, d4, d5, d6, d7, d8, d9] }
  | _ => none }
def RingSureWrongFalsely : Prop := ringSureRow.holds Try.pinned (OpenSpec.ofChange ringSureWrong)

/-- 'heliographlaw9.RingCloses': WHATEVER THE INPUT: true; the input reads as it did. -/
def ringClosesSpec : ChangeSpec := { name := "ringCloses", fn := fun _ => fun
  | [d1, d2, d3, d4, d5, d6] => { results := [.lit (.bool true)], args := [d1, d2, d3, d4, d5, d6] }
  | _ => none }
def ringClosesRow : OpenClaim := { program := "ytoofbbmddddlcaa", sum := "8ce71f6f1bb1f0ea4ee9917f93f51da79b3424b7252bc24fbb0771823923e0ad", func := "heliograph/heliographlaw9.RingCloses", spec := "ringCloses", apart := false }
def RingClosesSaid : Prop := ringClosesRow.holds Try.pinned (OpenSpec.ofChange ringClosesSpec)

/-- ITS FALSE NEIGHBOUR: 'it returns false'. Refute it at one input. -/
def ringClosesWrong : ChangeSpec := { name := "ringCloses", fn := fun _ => fun
  | [d1, d2, d3, d4, d5, d6] => { results := [.lit (.bool false)], args := [d1, d2, d3, d4, d5, d6] }
  | _ => none }
def RingClosesWrongFalsely : Prop := ringClosesRow.holds Try.pinned (OpenSpec.ofChange ringClosesWrong)

/-- 'heliographlaw9.RingDiscs': WHATEVER THE INPUT: true; the input reads as it did. -/
def ringDiscsSpec : ChangeSpec := { name := "ringDiscs", fn := fun _ => fun
  | [d1, d2, d3, d4, d5, d6, d7] => { results := [.lit (.bool true)], args := [d1, d2, d3, d4, d5, d6, d7] }
  | _ => none }
def ringDiscsRow : OpenClaim := { program := "ytoofbbmddddlcaa", sum := "8ce71f6f1bb1f0ea4ee9917f93f51da79b3424b7252bc24fbb0771823923e0ad", func := "heliograph/heliographlaw9.RingDiscs", spec := "ringDiscs", apart := false }
def RingDiscsSaid : Prop := ringDiscsRow.holds Try.pinned (OpenSpec.ofChange ringDiscsSpec)

/-- ITS FALSE NEIGHBOUR: 'it returns false'. Refute it at one input. -/
def ringDiscsWrong : ChangeSpec := { name := "ringDiscs", fn := fun _ => fun
  | [d1, d2, d3, d4, d5, d6, d7] => { results := [.lit (.bool false)], args := [d1, d2, d3, d4, d5, d6, d7] }
  | _ => none }
def RingDiscsWrongFalsely : Prop := ringDiscsRow.holds Try.pinned (OpenSpec.ofChange ringDiscsWrong)

/- THE SECOND FORM. 'bulk': how many values and letters a reading holds, each counted each time it is reached (what is shared counts as often as it is met; a slice's spare places count too). A statement '..UptoSaid' is the law's where the arguments, and the package variables that the reading takes, are together of bulk at most 1048576: NARROWER than '..Said'. Prove '..Said' where nothing that the law and all that it calls make is longer than what came in: it says more and counts as full. Else prove '..UptoSaid'. A law counts once. -/
mutual
def uptoBulk {H : Type} : DataW H → Nat
  | .lit (.string bytes) => bytes.length + 1
  | .lit _ => 1
  | .nil => 1
  | .ptr d => uptoBulk d + 1
  | .slice elems spare => uptoBulkAll elems + uptoBulkAll spare + 1
  | .agg parts => uptoBulkAll parts + 1
  | .iface _ d => uptoBulk d + 1
  | .map entries => uptoBulkEntries entries + 1
  | .held _ => 1
def uptoBulkAll {H : Type} : List (DataW H) → Nat
  | [] => 0
  | d :: r => uptoBulk d + uptoBulkAll r
def uptoBulkEntries {H : Type} : List (Lit × DataW H) → Nat
  | [] => 0
  | x :: r => uptoBulkEntry x + uptoBulkEntries r
def uptoBulkEntry {H : Type} : Lit × DataW H → Nat
  | (.string bytes, d) => bytes.length + uptoBulk d + 1
  | (_, d) => uptoBulk d + 1
 end
def uptoSmall : (H : Type) → List (DataW H) → Bool := fun _ ds => decide (uptoBulkAll ds ≤ 1048576)
def OpenSpec.upto (s : _root_.Go.ChangeSpec) : _root_.Go.OpenSpec := { _root_.Go.OpenSpec.ofChange s with cond := some uptoSmall }

/-- 'heliographlaw9.RingMoves', WHERE WHAT IT READS IS OF BULK AT MOST 1048576: true; the input reads as it did. -/
def ringMovesUptoRow : OpenClaim := { program := "ytoofbbmddddlcaa", sum := "8ce71f6f1bb1f0ea4ee9917f93f51da79b3424b7252bc24fbb0771823923e0ad", func := "heliograph/heliographlaw9.RingMoves", spec := "ringMoves", unfollowed := true, recurses := true, apart := false, narrowed := true }
def RingMovesUptoSaid : Prop := ringMovesUptoRow.holds Try.pinned (OpenSpec.upto ringMovesSpec)

/-- 'heliographlaw9.RingTells', WHERE WHAT IT READS IS OF BULK AT MOST 1048576: true; the input reads as it did. -/
def ringTellsUptoRow : OpenClaim := { program := "ytoofbbmddddlcaa", sum := "8ce71f6f1bb1f0ea4ee9917f93f51da79b3424b7252bc24fbb0771823923e0ad", func := "heliograph/heliographlaw9.RingTells", spec := "ringTells", apart := false, narrowed := true }
def RingTellsUptoSaid : Prop := ringTellsUptoRow.holds Try.pinned (OpenSpec.upto ringTellsSpec)

/-- 'heliographlaw9.RingSure', WHERE WHAT IT READS IS OF BULK AT MOST 1048576: true; the input reads as it did. -/
def ringSureUptoRow : OpenClaim := { program := "ytoofbbmddddlcaa", sum := "8ce71f6f1bb1f0ea4ee9917f93f51da79b3424b7252bc24fbb0771823923e0ad", func := "heliograph/heliographlaw9.RingSure", spec := "ringSure", apart := false, narrowed := true }
def RingSureUptoSaid : Prop := ringSureUptoRow.holds Try.pinned (OpenSpec.upto ringSureSpec)

/-- 'heliographlaw9.RingCloses', WHERE WHAT IT READS IS OF BULK AT MOST 1048576: true; the input reads as it did. -/
def ringClosesUptoRow : OpenClaim := { program := "ytoofbbmddddlcaa", sum := "8ce71f6f1bb1f0ea4ee9917f93f51da79b3424b7252bc24fbb0771823923e0ad", func := "heliograph/heliographlaw9.RingCloses", spec := "ringCloses", apart := false, narrowed := true }
def RingClosesUptoSaid : Prop := ringClosesUptoRow.holds Try.pinned (OpenSpec.upto ringClosesSpec)

/-- 'heliographlaw9.RingDiscs', WHERE WHAT IT READS IS OF BULK AT MOST 1048576: true; the input reads as it did. -/
def ringDiscsUptoRow : OpenClaim := { program := "ytoofbbmddddlcaa", sum := "8ce71f6f1bb1f0ea4ee9917f93f51da79b3424b7252bc24fbb0771823923e0ad", func := "heliograph/heliographlaw9.RingDiscs", spec := "ringDiscs", apart := false, narrowed := true }
def RingDiscsUptoSaid : Prop := ringDiscsUptoRow.holds Try.pinned (OpenSpec.upto ringDiscsSpec)

end Rows
end Go.Proofs.Ytoofbbmddddlcaa
