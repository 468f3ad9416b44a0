/-
  No cell of these rows narrows 'for every input' (looked for: loops, veiled, ifaces, maps, wideKeys, modest, calm, conditions, laid).
  DERIVED. THE GIVEN ROWS OF THIS SEAT. 4 by the template 'for every input the law returns true; each argument reads behind the call as it read before'; 0 by the template 'total and deterministic' (their statements: YtpojkpiadbpooaaTotals.lean).
  GIVEN WITH THE SEED: the statements are not yours to turn. If you find one false, say at which input.
  Laid BY PROGRAM, IN A SANDBOX (cutbox-rows.mjs): the forced cells as the released guide's own fill.sh prints them over the translation 96e749fd28aa8ae2… (all of the seat's roots in one cut). By AI agents, Wed Nov 11 2026. No macro, syntax, notation, axiom, sorry.
-/
import Derived.Test.YtpojkpiadbpooaaChecked
import GoSem.Claim
import GoSem.ClaimJoined
import GoSem.ClaimMapViews
import Derived.JoinedTies
import Derived.KernelRfl
namespace Go.Proofs.Ytpojkpiadbpooaa
/- THE CELL 'sum', in the pinned program and in every row, IS THE sha256 OF THE DUMP (.gsa) THAT YtpojkpiadbpooaaProg.lean LOADS. Nothing in Lean hashes anything: it is a label: what it is worth is what the hold of that sum in a sandbox is worth. -/
noncomputable def Try.pinned : Pinned := { name := "ytpojkpiadbpooaa", sum := "96e749fd28aa8ae2048d97ca1662e872ad34651b81a29ee39830a6b0d62adbfd", checked := Try.checked }
namespace Rows
def none {H : Type} : Left H := { results := [], args := [] }

/-- 'heliographlaw2.DeciBounds': WHATEVER THE INPUT: true; the input reads as it did. -/
def deciBoundsSpec : ChangeSpec := { name := "deciBounds", fn := fun _ => fun
  | [d1, d2, d3, d4] => { results := [.lit (.bool true)], args := [d1, d2, d3, d4] }
  | _ => none }
def deciBoundsRow : OpenClaim := { program := "ytpojkpiadbpooaa", sum := "96e749fd28aa8ae2048d97ca1662e872ad34651b81a29ee39830a6b0d62adbfd", func := "heliograph/heliographlaw2.DeciBounds", spec := "deciBounds", apart := false }
def DeciBoundsSaid : Prop := deciBoundsRow.holds Try.pinned (OpenSpec.ofChange deciBoundsSpec)

/-- ITS FALSE NEIGHBOUR: 'it returns false'. Refute it at one input. -/
def deciBoundsWrong : ChangeSpec := { name := "deciBounds", fn := fun _ => fun
  | [d1, d2, d3, d4] => { results := [.lit (.bool false)], args := [d1, d2, d3, d4] }
  | _ => none }
def DeciBoundsWrongFalsely : Prop := deciBoundsRow.holds Try.pinned (OpenSpec.ofChange deciBoundsWrong)

/-- 'heliographlaw2.DeciTells': WHATEVER THE INPUT: true; the input reads as it did. -/
def deciTellsSpec : ChangeSpec := { name := "deciTells", fn := fun _ => fun
  | [d1, d2] => { results := [.lit (.bool true)], args := [d1, d2] }
  | _ => none }
def deciTellsRow : OpenClaim := { program := "ytpojkpiadbpooaa", sum := "96e749fd28aa8ae2048d97ca1662e872ad34651b81a29ee39830a6b0d62adbfd", func := "heliograph/heliographlaw2.DeciTells", spec := "deciTells", apart := false }
def DeciTellsSaid : Prop := deciTellsRow.holds Try.pinned (OpenSpec.ofChange deciTellsSpec)

/-- ITS FALSE NEIGHBOUR: 'it returns false'. Refute it at one input. -/
def deciTellsWrong : ChangeSpec := { name := "deciTells", fn := fun _ => fun
  | [d1, d2] => { results := [.lit (.bool false)], args := [d1, d2] }
  | _ => none }
def DeciTellsWrongFalsely : Prop := deciTellsRow.holds Try.pinned (OpenSpec.ofChange deciTellsWrong)

/-- 'heliographlaw2.DeciBack': WHATEVER THE INPUT: true; the input reads as it did. -/
def deciBackSpec : ChangeSpec := { name := "deciBack", fn := fun _ => fun
  | [d1, d2] => { results := [.lit (.bool true)], args := [d1, d2] }
  | _ => none }
def deciBackRow : OpenClaim := { program := "ytpojkpiadbpooaa", sum := "96e749fd28aa8ae2048d97ca1662e872ad34651b81a29ee39830a6b0d62adbfd", func := "heliograph/heliographlaw2.DeciBack", spec := "deciBack", apart := false }
def DeciBackSaid : Prop := deciBackRow.holds Try.pinned (OpenSpec.ofChange deciBackSpec)

/-- ITS FALSE NEIGHBOUR: 'it returns false'. Refute it at one input. -/
def deciBackWrong : ChangeSpec := { name := "deciBack", fn := fun _ => fun
  | [d1, d2] => { results := [.lit (.bool false)], args := [d1, d2] }
  | _ => none }
def DeciBackWrongFalsely : Prop := deciBackRow.holds Try.pinned (OpenSpec.ofChange deciBackWrong)

/-- 'heliographlaw2.DeciParts': WHATEVER THE INPUT: true; the input reads as it did. -/
def deciPartsSpec : ChangeSpec := { name := "deciParts", fn := fun _ => fun
  | [d1, d2, d3] => { results := [.lit (.bool true)], args := [d1, d2, d3] }
  | _ => none }
def deciPartsRow : OpenClaim := { program := "ytpojkpiadbpooaa", sum := "96e749fd28aa8ae2048d97ca1662e872ad34651b81a29ee39830a6b0d62adbfd", func := "heliograph/heliographlaw2.DeciParts", spec := "deciParts", apart := false }
def DeciPartsSaid : Prop := deciPartsRow.holds Try.pinned (OpenSpec.ofChange deciPartsSpec)

/-- ITS FALSE NEIGHBOUR: 'it returns false'. Refute it at one input. -/
def deciPartsWrong : ChangeSpec := { name := "deciParts", fn := fun _ => fun
  | [d1, d2, d3] => { results := [.lit (.bool false)], args := [d1, d2, d3] }
  | _ => none }
def DeciPartsWrongFalsely : Prop := deciPartsRow.holds Try.pinned (OpenSpec.ofChange deciPartsWrong)

/- THE SECOND FORM. 'bulk': how many values and letters a reading holds, each counted each time it is reached (what is shared counts as often as it is met; a slice's spare places count too). A statement '..UptoSaid' is the law's where the arguments, and the package variables that the reading takes, are together of bulk at most 1048576: NARROWER than '..Said'. Prove '..Said' where nothing that the law and all that it calls make is longer than what came in: it says more and counts as full. Else prove '..UptoSaid'. A law counts once. -/
mutual
def uptoBulk {H : Type} : DataW H → Nat
  | .lit (.string bytes) => bytes.length + 1
  | .lit _ => 1
  | .nil => 1
  | .ptr d => uptoBulk d + 1
  | .slice elems spare => uptoBulkAll elems + uptoBulkAll spare + 1
  | .agg parts => uptoBulkAll parts + 1
  | .iface _ d => uptoBulk d + 1
  | .map entries => uptoBulkEntries entries + 1
  | .held _ => 1
def uptoBulkAll {H : Type} : List (DataW H) → Nat
  | [] => 0
  | d :: r => uptoBulk d + uptoBulkAll r
def uptoBulkEntries {H : Type} : List (Lit × DataW H) → Nat
  | [] => 0
  | x :: r => uptoBulkEntry x + uptoBulkEntries r
def uptoBulkEntry {H : Type} : Lit × DataW H → Nat
  | (.string bytes, d) => bytes.length + uptoBulk d + 1
  | (_, d) => uptoBulk d + 1
 end
def uptoSmall : (H : Type) → List (DataW H) → Bool := fun _ ds => decide (uptoBulkAll ds ≤ 1048576)
def OpenSpec.upto (s : _root_.Go.ChangeSpec) : _root_.Go.OpenSpec := { _root_.Go.OpenSpec.ofChange s with cond := some uptoSmall }

/-- 'heliographlaw2.DeciBounds', WHERE WHAT IT READS IS OF BULK AT MOST 1048576: true; the input reads as it did. -/
def deciBoundsUptoRow : OpenClaim := { program := "ytpojkpiadbpooaa", sum := "96e749fd28aa8ae2048d97ca1662e872ad34651b81a29ee39830a6b0d62adbfd", func := "heliograph/heliographlaw2.DeciBounds", spec := "deciBounds", apart := false, narrowed := true }
def DeciBoundsUptoSaid : Prop := deciBoundsUptoRow.holds Try.pinned (OpenSpec.upto deciBoundsSpec)

/-- 'heliographlaw2.DeciTells', WHERE WHAT IT READS IS OF BULK AT MOST 1048576: true; the input reads as it did. -/
def deciTellsUptoRow : OpenClaim := { program := "ytpojkpiadbpooaa", sum := "96e749fd28aa8ae2048d97ca1662e872ad34651b81a29ee39830a6b0d62adbfd", func := "heliograph/heliographlaw2.DeciTells", spec := "deciTells", apart := false, narrowed := true }
def DeciTellsUptoSaid : Prop := deciTellsUptoRow.holds Try.pinned (OpenSpec.upto deciTellsSpec)

/-- 'heliographlaw2.DeciBack', WHERE WHAT IT READS IS OF BULK AT MOST 1048576: true; the input reads as it did. -/
def deciBackUptoRow : OpenClaim := { program := "ytpojkpiadbpooaa", sum := "96e749fd28aa8ae2048d97ca1662e872ad34651b81a29ee39830a6b0d62adbfd", func := "heliograph/heliographlaw2.DeciBack", spec := "deciBack", apart := false, narrowed := true }
def DeciBackUptoSaid : Prop := deciBackUptoRow.holds Try.pinned (OpenSpec.upto deciBackSpec)

/-- 'heliographlaw2.DeciParts', WHERE WHAT IT READS IS OF BULK AT MOST 1048576: true; the input reads as it did. -/
def deciPartsUptoRow : OpenClaim := { program := "ytpojkpiadbpooaa", sum := "96e749fd28aa8ae2048d97ca1662e872ad34651b81a29ee39830a6b0d62adbfd", func := "heliograph/heliographlaw2.DeciParts", spec := "deciParts", apart := false, narrowed := true }
def DeciPartsUptoSaid : Prop := deciPartsUptoRow.holds Try.pinned (OpenSpec.upto deciPartsSpec)

end Rows
end Go.Proofs.Ytpojkpiadbpooaa
