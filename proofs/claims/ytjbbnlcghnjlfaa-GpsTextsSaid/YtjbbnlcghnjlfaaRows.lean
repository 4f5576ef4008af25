/-
  No cell of these rows narrows 'for every input' (looked for: loops, veiled, ifaces, maps, wideKeys, modest, calm, conditions, laid).
  DERIVED. THE GIVEN ROWS OF THIS SEAT. 2 by the template 'for every input the law returns true; each argument reads behind the call as it read before'; 0 by the template 'total and deterministic' (their statements: YtjbbnlcghnjlfaaTotals.lean).
  GIVEN WITH THE SEED: the statements are not yours to turn. If you find one false, say at which input.
  Laid BY PROGRAM, IN A SANDBOX (cutbox-rows.mjs): the forced cells as the released guide's own fill.sh prints them over the translation 3787f406fa3edef1… (all of the seat's roots in one cut). By AI agents, Wed Nov 11 2026. No macro, syntax, notation, axiom, sorry.
-/
import Derived.Test.YtjbbnlcghnjlfaaChecked
import GoSem.Claim
import GoSem.ClaimJoined
import GoSem.ClaimMapViews
import Derived.JoinedTies
import Derived.KernelRfl
namespace Go.Proofs.Ytjbbnlcghnjlfaa
/- THE CELL 'sum', in the pinned program and in every row, IS THE sha256 OF THE DUMP (.gsa) THAT YtjbbnlcghnjlfaaProg.lean LOADS. Nothing in Lean hashes anything: it is a label: what it is worth is what the hold of that sum in a sandbox is worth. -/
noncomputable def Try.pinned : Pinned := { name := "ytjbbnlcghnjlfaa", sum := "3787f406fa3edef134292ff1785a5c0427f65c74cd0b58f66cde0662fd1a0c42", checked := Try.checked }
namespace Rows
def none {H : Type} : Left H := { results := [], args := [] }

/-- 'horologelaw14.GpsShorts': WHATEVER THE INPUT: true; the input reads as it did. -/
def gpsShortsSpec : ChangeSpec := { name := "gpsShorts", fn := fun _ => fun
  | [d1, d2, d3] => { results := [.lit (.bool true)], args := [d1, d2, d3] }
  | _ => none }
def gpsShortsRow : OpenClaim := { program := "ytjbbnlcghnjlfaa", sum := "3787f406fa3edef134292ff1785a5c0427f65c74cd0b58f66cde0662fd1a0c42", func := "horologe/horologelaw14.GpsShorts", spec := "gpsShorts", apart := false }
def GpsShortsSaid : Prop := gpsShortsRow.holds Try.pinned (OpenSpec.ofChange gpsShortsSpec)

/-- ITS FALSE NEIGHBOUR: 'it returns false'. Refute it at one input. -/
def gpsShortsWrong : ChangeSpec := { name := "gpsShorts", fn := fun _ => fun
  | [d1, d2, d3] => { results := [.lit (.bool false)], args := [d1, d2, d3] }
  | _ => none }
def GpsShortsWrongFalsely : Prop := gpsShortsRow.holds Try.pinned (OpenSpec.ofChange gpsShortsWrong)

/-- 'horologelaw14.GpsTexts': WHATEVER THE INPUT: true; the input reads as it did. -/
def gpsTextsSpec : ChangeSpec := { name := "gpsTexts", fn := fun _ => fun
  | [d] => { results := [.lit (.bool true)], args := [d] }
  | _ => none }
def gpsTextsRow : OpenClaim := { program := "ytjbbnlcghnjlfaa", sum := "3787f406fa3edef134292ff1785a5c0427f65c74cd0b58f66cde0662fd1a0c42", func := "horologe/horologelaw14.GpsTexts", spec := "gpsTexts", inPlace := ["internal/bytealg.IndexByteString"], unfollowed := true, recurses := true, apart := false }
def GpsTextsSaid : Prop := gpsTextsRow.holds Try.pinned (OpenSpec.ofChange gpsTextsSpec)

/-- ITS FALSE NEIGHBOUR: 'it returns false'. Refute it at one input. -/
def gpsTextsWrong : ChangeSpec := { name := "gpsTexts", fn := fun _ => fun
  | [d] => { results := [.lit (.bool false)], args := [d] }
  | _ => none }
def GpsTextsWrongFalsely : Prop := gpsTextsRow.holds Try.pinned (OpenSpec.ofChange gpsTextsWrong)

/- THE SECOND FORM. 'bulk': how many values and letters a reading holds, each counted each time it is reached (what is shared counts as often as it is met; a slice's spare places count too). A statement '..UptoSaid' is the law's where the arguments, and the package variables that the reading takes, are together of bulk at most 1048576: NARROWER than '..Said'. Prove '..Said' where nothing that the law and all that it calls make is longer than what came in: it says more and counts as full. Else prove '..UptoSaid'. A law counts once. -/
mutual
def uptoBulk {H : Type} : DataW H → Nat
  | .lit (.string bytes) => bytes.length + 1
  | .lit _ => 1
  | .nil => 1
  | .ptr d => uptoBulk d + 1
  | .slice elems spare => uptoBulkAll elems + uptoBulkAll spare + 1
  | .agg parts => uptoBulkAll parts + 1
  | .iface _ d => uptoBulk d + 1
  | .map entries => uptoBulkEntries entries + 1
  | .held _ => 1
def uptoBulkAll {H : Type} : List (DataW H) → Nat
  | [] => 0
  | d :: r => uptoBulk d + uptoBulkAll r
def uptoBulkEntries {H : Type} : List (Lit × DataW H) → Nat
  | [] => 0
  | x :: r => uptoBulkEntry x + uptoBulkEntries r
def uptoBulkEntry {H : Type} : Lit × DataW H → Nat
  | (.string bytes, d) => bytes.length + uptoBulk d + 1
  | (_, d) => uptoBulk d + 1
 end
def uptoSmall : (H : Type) → List (DataW H) → Bool := fun _ ds => decide (uptoBulkAll ds ≤ 1048576)
def OpenSpec.upto (s : _root_.Go.ChangeSpec) : _root_.Go.OpenSpec := { _root_.Go.OpenSpec.ofChange s with cond := some uptoSmall }

/-- 'horologelaw14.GpsShorts', WHERE WHAT IT READS IS OF BULK AT MOST 1048576: true; the input reads as it did. -/
def gpsShortsUptoRow : OpenClaim := { program := "ytjbbnlcghnjlfaa", sum := "3787f406fa3edef134292ff1785a5c0427f65c74cd0b58f66cde0662fd1a0c42", func := "horologe/horologelaw14.GpsShorts", spec := "gpsShorts", apart := false, narrowed := true }
def GpsShortsUptoSaid : Prop := gpsShortsUptoRow.holds Try.pinned (OpenSpec.upto gpsShortsSpec)

/-- 'horologelaw14.GpsTexts', WHERE WHAT IT READS IS OF BULK AT MOST 1048576: true; the input reads as it did. -/
def gpsTextsUptoRow : OpenClaim := { program := "ytjbbnlcghnjlfaa", sum := "3787f406fa3edef134292ff1785a5c0427f65c74cd0b58f66cde0662fd1a0c42", func := "horologe/horologelaw14.GpsTexts", spec := "gpsTexts", inPlace := ["internal/bytealg.IndexByteString"], unfollowed := true, recurses := true, apart := false, narrowed := true }
def GpsTextsUptoSaid : Prop := gpsTextsUptoRow.holds Try.pinned (OpenSpec.upto gpsTextsSpec)

end Rows
end Go.Proofs.Ytjbbnlcghnjlfaa
