/-
  No cell of these rows narrows 'for every input' (looked for: loops, veiled, ifaces, maps, wideKeys, modest, calm, conditions, laid).
  DERIVED. THE GIVEN ROWS OF THIS SEAT. 4 by the template 'for every input the law returns true; each argument reads behind the call as it read before'; 0 by the template 'total and deterministic' (their statements: YtmbegglkinlgdaaTotals.lean).
  GIVEN WITH THE SEED: the statements are not yours to turn. If you find one false, say at which input.
  Laid BY PROGRAM, IN A SANDBOX (cutbox-rows.mjs): the forced cells as the released guide's own fill.sh prints them over the translation 9ae1ba970575ec83… (all of the seat's roots in one cut). By AI agents, Wed Nov 11 2026. No macro, syntax, notation, axiom, sorry.
-/
import Derived.Test.YtmbegglkinlgdaaChecked
import GoSem.Claim
import GoSem.ClaimJoined
import GoSem.ClaimMapViews
import Derived.JoinedTies
import Derived.KernelRfl
namespace Go.Proofs.Ytmbegglkinlgdaa
/- THE CELL 'sum', in the pinned program and in every row, IS THE sha256 OF THE DUMP (.gsa) THAT YtmbegglkinlgdaaProg.lean LOADS. Nothing in Lean hashes anything: it is a label: what it is worth is what the hold of that sum in a sandbox is worth. -/
noncomputable def Try.pinned : Pinned := { name := "ytmbegglkinlgdaa", sum := "9ae1ba970575ec83aae68416e3245ef60679d2bd1ea89e951133336d791e78e9", checked := Try.checked }
namespace Rows
def none {H : Type} : Left H := { results := [], args := [] }

/-- 'heliographlaw5.DiscFar': WHATEVER THE INPUT: true; the input reads as it did. -/
def discFarSpec : ChangeSpec := { name := "discFar", fn := fun _ => fun
  | [d1, d2, d3] => { results := [.lit (.bool true)], args := [d1, d2, d3] }
  | _ => none }
def discFarRow : OpenClaim := { program := "ytmbegglkinlgdaa", sum := "9ae1ba970575ec83aae68416e3245ef60679d2bd1ea89e951133336d791e78e9", func := "heliograph/heliographlaw5.DiscFar", spec := "discFar", apart := false }
def DiscFarSaid : Prop := discFarRow.holds Try.pinned (OpenSpec.ofChange discFarSpec)

/-- ITS FALSE NEIGHBOUR: 'it returns false'. Refute it at one input. -/
def discFarWrong : ChangeSpec := { name := "discFar", fn := fun _ => fun
  | [d1, d2, d3] => { results := [.lit (.bool false)], args := [d1, d2, d3] }
  | _ => none }
def DiscFarWrongFalsely : Prop := discFarRow.holds Try.pinned (OpenSpec.ofChange discFarWrong)

/-- 'heliographlaw5.DiscTells': WHATEVER THE INPUT: true; the input reads as it did. -/
def discTellsSpec : ChangeSpec := { name := "discTells", fn := fun _ => fun
  | [d1, d2, d3, d4, d5] => { results := [.lit (.bool true)], args := [d1, d2, d3, d4, d5] }
  | _ => none }
def discTellsRow : OpenClaim := { program := "ytmbegglkinlgdaa", sum := "9ae1ba970575ec83aae68416e3245ef60679d2bd1ea89e951133336d791e78e9", func := "heliograph/heliographlaw5.DiscTells", spec := "discTells", apart := false }
def DiscTellsSaid : Prop := discTellsRow.holds Try.pinned (OpenSpec.ofChange discTellsSpec)

/-- ITS FALSE NEIGHBOUR: 'it returns false'. Refute it at one input. -/
def discTellsWrong : ChangeSpec := { name := "discTells", fn := fun _ => fun
  | [d1, d2, d3, d4, d5] => { results := [.lit (.bool false)], args := [d1, d2, d3, d4, d5] }
  | _ => none }
def DiscTellsWrongFalsely : Prop := discTellsRow.holds Try.pinned (OpenSpec.ofChange discTellsWrong)

/-- 'heliographlaw5.DiscSure': WHATEVER THE INPUT: true; the input reads as it did. -/
def discSureSpec : ChangeSpec := { name := "discSure", fn := fun _ => fun
  | [d1, d2, d3, d4, d5, d6] => { results := [.lit (.bool true)], args := [d1, d2, d3, d4, d5, d6] }
  | _ => none }
def discSureRow : OpenClaim := { program := "ytmbegglkinlgdaa", sum := "9ae1ba970575ec83aae68416e3245ef60679d2bd1ea89e951133336d791e78e9", func := "heliograph/heliographlaw5.DiscSure", spec := "discSure", apart := false }
def DiscSureSaid : Prop := discSureRow.holds Try.pinned (OpenSpec.ofChange discSureSpec)

/-- ITS FALSE NEIGHBOUR: 'it returns false'. Refute it at one input. -/
def discSureWrong : ChangeSpec := { name := "discSure", fn := fun _ => fun
  | [d1, d2, d3, d4, d5, d6] => { results := [.lit (.bool false)], args := [d1, d2, d3, d4, d5, d6] }
  | _ => none }
def DiscSureWrongFalsely : Prop := discSureRow.holds Try.pinned (OpenSpec.ofChange discSureWrong)

/-- 'heliographlaw5.DiscMoves': WHATEVER THE INPUT: true; the input reads as it did. -/
def discMovesSpec : ChangeSpec := { name := "discMoves", fn := fun _ => fun
  | [d1, d2, d3, d4, d5] => { results := [.lit (.bool true)], args := [d1, d2, d3, d4, d5] }
  | _ => none }
def discMovesRow : OpenClaim := { program := "ytmbegglkinlgdaa", sum := "9ae1ba970575ec83aae68416e3245ef60679d2bd1ea89e951133336d791e78e9", func := "heliograph/heliographlaw5.DiscMoves", spec := "discMoves", apart := false }
def DiscMovesSaid : Prop := discMovesRow.holds Try.pinned (OpenSpec.ofChange discMovesSpec)

/-- ITS FALSE NEIGHBOUR: 'it returns false'. Refute it at one input. -/
def discMovesWrong : ChangeSpec := { name := "discMoves", fn := fun _ => fun
  | [d1, d2, d3, d4, d5] => { results := [.lit (.bool false)], args := [d1, d2, d3, d4, d5] }
  | _ => none }
def DiscMovesWrongFalsely : Prop := discMovesRow.holds Try.pinned (OpenSpec.ofChange discMovesWrong)

/- THE SECOND FORM. 'bulk': how many values and letters a reading holds, each counted each time it is reached (what is shared counts as often as it is met; a slice's spare places count too). A statement '..UptoSaid' is the law's where the arguments, and the package variables that the reading takes, are together of bulk at most 1048576: NARROWER than '..Said'. Prove '..Said' where nothing that the law and all that it calls make is longer than what came in: it says more and counts as full. Else prove '..UptoSaid'. A law counts once. -/
mutual
def uptoBulk {H : Type} : DataW H → Nat
  | .lit (.string bytes) => bytes.length + 1
  | .lit _ => 1
  | .nil => 1
  | .ptr d => uptoBulk d + 1
  | .slice elems spare => uptoBulkAll elems + uptoBulkAll spare + 1
  | .agg parts => uptoBulkAll parts + 1
  | .iface _ d => uptoBulk d + 1
  | .map entries => uptoBulkEntries entries + 1
  | .held _ => 1
def uptoBulkAll {H : Type} : List (DataW H) → Nat
  | [] => 0
  | d :: r => uptoBulk d + uptoBulkAll r
def uptoBulkEntries {H : Type} : List (Lit × DataW H) → Nat
  | [] => 0
  | x :: r => uptoBulkEntry x + uptoBulkEntries r
def uptoBulkEntry {H : Type} : Lit × DataW H → Nat
  | (.string bytes, d) => bytes.length + uptoBulk d + 1
  | (_, d) => uptoBulk d + 1
 end
def uptoSmall : (H : Type) → List (DataW H) → Bool := fun _ ds => decide (uptoBulkAll ds ≤ 1048576)
def OpenSpec.upto (s : _root_.Go.ChangeSpec) : _root_.Go.OpenSpec := { _root_.Go.OpenSpec.ofChange s with cond := some uptoSmall }

/-- 'heliographlaw5.DiscFar', WHERE WHAT IT READS IS OF BULK AT MOST 1048576: true; the input reads as it did. -/
def discFarUptoRow : OpenClaim := { program := "ytmbegglkinlgdaa", sum := "9ae1ba970575ec83aae68416e3245ef60679d2bd1ea89e951133336d791e78e9", func := "heliograph/heliographlaw5.DiscFar", spec := "discFar", apart := false, narrowed := true }
def DiscFarUptoSaid : Prop := discFarUptoRow.holds Try.pinned (OpenSpec.upto discFarSpec)

/-- 'heliographlaw5.DiscTells', WHERE WHAT IT READS IS OF BULK AT MOST 1048576: true; the input reads as it did. -/
def discTellsUptoRow : OpenClaim := { program := "ytmbegglkinlgdaa", sum := "9ae1ba970575ec83aae68416e3245ef60679d2bd1ea89e951133336d791e78e9", func := "heliograph/heliographlaw5.DiscTells", spec := "discTells", apart := false, narrowed := true }
def DiscTellsUptoSaid : Prop := discTellsUptoRow.holds Try.pinned (OpenSpec.upto discTellsSpec)

/-- 'heliographlaw5.DiscSure', WHERE WHAT IT READS IS OF BULK AT MOST 1048576: true; the input reads as it did. -/
def discSureUptoRow : OpenClaim := { program := "ytmbegglkinlgdaa", sum := "9ae1ba970575ec83aae68416e3245ef60679d2bd1ea89e951133336d791e78e9", func := "heliograph/heliographlaw5.DiscSure", spec := "discSure", apart := false, narrowed := true }
def DiscSureUptoSaid : Prop := discSureUptoRow.holds Try.pinned (OpenSpec.upto discSureSpec)

/-- 'heliographlaw5.DiscMoves', WHERE WHAT IT READS IS OF BULK AT MOST 1048576: true; the input reads as it did. -/
def discMovesUptoRow : OpenClaim := { program := "ytmbegglkinlgdaa", sum := "9ae1ba970575ec83aae68416e3245ef60679d2bd1ea89e951133336d791e78e9", func := "heliograph/heliographlaw5.DiscMoves", spec := "discMoves", apart := false, narrowed := true }
def DiscMovesUptoSaid : Prop := discMovesUptoRow.holds Try.pinned (OpenSpec.upto discMovesSpec)

end Rows
end Go.Proofs.Ytmbegglkinlgdaa
