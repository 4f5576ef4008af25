/-
  No cell of these rows narrows 'for every input' (looked for: loops, veiled, ifaces, maps, wideKeys, modest, calm, conditions, laid).
  DERIVED. THE GIVEN ROWS OF THIS SEAT. 4 by the template 'for every input the law returns true; each argument reads behind the call as it read before'; 0 by the template 'total and deterministic' (their statements: YtdonicaiimeleaaTotals.lean).
  GIVEN WITH THE SEED: the statements are not yours to turn. If you find one false, say at which input.
  Laid BY PROGRAM, IN A SANDBOX (cutbox-rows.mjs): the forced cells as the released guide's own fill.sh prints them over the translation c396220c7552b28e… (all of the seat's roots in one cut). By AI agents, Wed Nov 11 2026. No macro, syntax, notation, axiom, sorry.
-/
import Derived.Test.YtdonicaiimeleaaChecked
import GoSem.Claim
import GoSem.ClaimJoined
import GoSem.ClaimMapViews
import Derived.JoinedTies
import Derived.KernelRfl
namespace Go.Proofs.Ytdonicaiimeleaa
/- THE CELL 'sum', in the pinned program and in every row, IS THE sha256 OF THE DUMP (.gsa) THAT YtdonicaiimeleaaProg.lean LOADS. Nothing in Lean hashes anything: it is a label: what it is worth is what the hold of that sum in a sandbox is worth. -/
noncomputable def Try.pinned : Pinned := { name := "ytdonicaiimeleaa", sum := "c396220c7552b28ef046c89ef82476517629d6e54b9a96d6d1c4aa37f16db9e6", checked := Try.checked }
namespace Rows
def none {H : Type} : Left H := { results := [], args := [] }

/-- 'horologelaw13.EraBits': WHATEVER THE INPUT: true; the input reads as it did. -/
def eraBitsSpec : ChangeSpec := { name := "eraBits", fn := fun _ => fun
  | [d1, d2, d3] => { results := [.lit (.bool true)], args := [d1, d2, d3] }
  | _ => none }
def eraBitsRow : OpenClaim := { program := "ytdonicaiimeleaa", sum := "c396220c7552b28ef046c89ef82476517629d6e54b9a96d6d1c4aa37f16db9e6", func := "horologe/horologelaw13.EraBits", spec := "eraBits", apart := false }
def EraBitsSaid : Prop := eraBitsRow.holds Try.pinned (OpenSpec.ofChange eraBitsSpec)

/-- ITS FALSE NEIGHBOUR: 'it returns false'. Refute it at one input. -/
def eraBitsWrong : ChangeSpec := { name := "eraBits", fn := fun _ => fun
  | [d1, d2, d3] => { results := [.lit (.bool false)], args := [d1, d2, d3] }
  | _ => none }
def EraBitsWrongFalsely : Prop := eraBitsRow.holds Try.pinned (OpenSpec.ofChange eraBitsWrong)

/-- 'horologelaw13.EraWords': WHATEVER THE INPUT: true; the input reads as it did. -/
def eraWordsSpec : ChangeSpec := { name := "eraWords", fn := fun _ => fun
  | [d1, d2, d3] => { results := [.lit (.bool true)], args := [d1, d2, d3] }
  | _ => none }
def eraWordsRow : OpenClaim := { program := "ytdonicaiimeleaa", sum := "c396220c7552b28ef046c89ef82476517629d6e54b9a96d6d1c4aa37f16db9e6", func := "horologe/horologelaw13.EraWords", spec := "eraWords", apart := false }
def EraWordsSaid : Prop := eraWordsRow.holds Try.pinned (OpenSpec.ofChange eraWordsSpec)

/-- ITS FALSE NEIGHBOUR: 'it returns false'. Refute it at one input. -/
def eraWordsWrong : ChangeSpec := { name := "eraWords", fn := fun _ => fun
  | [d1, d2, d3] => { results := [.lit (.bool false)], args := [d1, d2, d3] }
  | _ => none }
def EraWordsWrongFalsely : Prop := eraWordsRow.holds Try.pinned (OpenSpec.ofChange eraWordsWrong)

/-- 'horologelaw13.EraSplits': WHATEVER THE INPUT: true; the input reads as it did. -/
def eraSplitsSpec : ChangeSpec := { name := "eraSplits", fn := fun _ => fun
  | [d1, d2, d3] => { results := [.lit (.bool true)], args := [d1, d2, d3] }
  | _ => none }
def eraSplitsRow : OpenClaim := { program := "ytdonicaiimeleaa", sum := "c396220c7552b28ef046c89ef82476517629d6e54b9a96d6d1c4aa37f16db9e6", func := "horologe/horologelaw13.EraSplits", spec := "eraSplits", apart := false }
def EraSplitsSaid : Prop := eraSplitsRow.holds Try.pinned (OpenSpec.ofChange eraSplitsSpec)

/-- ITS FALSE NEIGHBOUR: 'it returns false'. Refute it at one input. -/
def eraSplitsWrong : ChangeSpec := { name := "eraSplits", fn := fun _ => fun
  | [d1, d2, d3] => { results := [.lit (.bool false)], args := [d1, d2, d3] }
  | _ => none }
def EraSplitsWrongFalsely : Prop := eraSplitsRow.holds Try.pinned (OpenSpec.ofChange eraSplitsWrong)

/-- 'horologelaw13.EraBack': WHATEVER THE INPUT: true; the input reads as it did. -/
def eraBackSpec : ChangeSpec := { name := "eraBack", fn := fun _ => fun
  | [d1, d2, d3] => { results := [.lit (.bool true)], args := [d1, d2, d3] }
  | _ => none }
def eraBackRow : OpenClaim := { program := "ytdonicaiimeleaa", sum := "c396220c7552b28ef046c89ef82476517629d6e54b9a96d6d1c4aa37f16db9e6", func := "horologe/horologelaw13.EraBack", spec := "eraBack", apart := false }
def EraBackSaid : Prop := eraBackRow.holds Try.pinned (OpenSpec.ofChange eraBackSpec)

/-- ITS FALSE NEIGHBOUR: 'it returns false'. Refute it at one input. -/
def eraBackWrong : ChangeSpec := { name := "eraBack", fn := fun _ => fun
  | [d1, d2, d3] => { results := [.lit (.bool false)], args := [d1, d2, d3] }
  | _ => none }
def EraBackWrongFalsely : Prop := eraBackRow.holds Try.pinned (OpenSpec.ofChange eraBackWrong)

/- THE SECOND FORM. 'bulk': how many values and letters a reading holds, each counted each time it is reached (what is shared counts as often as it is met; a slice's spare places count too). A statement '..UptoSaid' is the law's where the arguments, and the package variables that the reading takes, are together of bulk at most 1048576: NARROWER than '..Said'. Prove '..Said' where nothing that the law and all that it calls make is longer than what came in: it says more and counts as full. Else prove '..UptoSaid'. A law counts once. -/
mutual
def uptoBulk {H : Type} : DataW H → Nat
  | .lit (.string bytes) => bytes.length + 1
  | .lit _ => 1
  | .nil => 1
  | .ptr d => uptoBulk d + 1
  | .slice elems spare => uptoBulkAll elems + uptoBulkAll spare + 1
  | .agg parts => uptoBulkAll parts + 1
  | .iface _ d => uptoBulk d + 1
  | .map entries => uptoBulkEntries entries + 1
  | .held _ => 1
def uptoBulkAll {H : Type} : List (DataW H) → Nat
  | [] => 0
  | d :: r => uptoBulk d + uptoBulkAll r
def uptoBulkEntries {H : Type} : List (Lit × DataW H) → Nat
  | [] => 0
  | x :: r => uptoBulkEntry x + uptoBulkEntries r
def uptoBulkEntry {H : Type} : Lit × DataW H → Nat
  | (.string bytes, d) => bytes.length + uptoBulk d + 1
  | (_, d) => uptoBulk d + 1
 end
def uptoSmall : (H : Type) → List (DataW H) → Bool := fun _ ds => decide (uptoBulkAll ds ≤ 1048576)
def OpenSpec.upto (s : _root_.Go.ChangeSpec) : _root_.Go.OpenSpec := { _root_.Go.OpenSpec.ofChange s with cond := some uptoSmall }

/-- 'horologelaw13.EraBits', WHERE WHAT IT READS IS OF BULK AT MOST 1048576: true; the input reads as it did. -/
def eraBitsUptoRow : OpenClaim := { program := "ytdonicaiimeleaa", sum := "c396220c7552b28ef046c89ef82476517629d6e54b9a96d6d1c4aa37f16db9e6", func := "horologe/horologelaw13.EraBits", spec := "eraBits", apart := false, narrowed := true }
def EraBitsUptoSaid : Prop := eraBitsUptoRow.holds Try.pinned (OpenSpec.upto eraBitsSpec)

/-- 'horologelaw13.EraWords', WHERE WHAT IT READS IS OF BULK AT MOST 1048576: true; the input reads as it did. -/
def eraWordsUptoRow : OpenClaim := { program := "ytdonicaiimeleaa", sum := "c396220c7552b28ef046c89ef82476517629d6e54b9a96d6d1c4aa37f16db9e6", func := "horologe/horologelaw13.EraWords", spec := "eraWords", apart := false, narrowed := true }
def EraWordsUptoSaid : Prop := eraWordsUptoRow.holds Try.pinned (OpenSpec.upto eraWordsSpec)

/-- 'horologelaw13.EraSplits', WHERE WHAT IT READS IS OF BULK AT MOST 1048576: true; the input reads as it did. -/
def eraSplitsUptoRow : OpenClaim := { program := "ytdonicaiimeleaa", sum := "c396220c7552b28ef046c89ef82476517629d6e54b9a96d6d1c4aa37f16db9e6", func := "horologe/horologelaw13.EraSplits", spec := "eraSplits", apart := false, narrowed := true }
def EraSplitsUptoSaid : Prop := eraSplitsUptoRow.holds Try.pinned (OpenSpec.upto eraSplitsSpec)

/-- 'horologelaw13.EraBack', WHERE WHAT IT READS IS OF BULK AT MOST 1048576: true; the input reads as it did. -/
def eraBackUptoRow : OpenClaim := { program := "ytdonicaiimeleaa", sum := "c396220c7552b28ef046c89ef82476517629d6e54b9a96d6d1c4aa37f16db9e6", func := "horologe/horologelaw13.EraBack", spec := "eraBack", apart := false, narrowed := true }
def EraBackUptoSaid : Prop := eraBackUptoRow.holds Try.pinned (OpenSpec.upto eraBackSpec)

end Rows
end Go.Proofs.Ytdonicaiimeleaa
