/-
  No cell of these rows narrows 'for every input' (looked for: loops, veiled, ifaces, maps, wideKeys, modest, calm, conditions, laid).
  DERIVED. THE GIVEN ROWS OF THIS SEAT. 5 by the template 'for every input the law returns true; each argument reads behind the call as it read before'; 0 by the template 'total and deterministic' (their statements: YtbffpallhofonaaTotals.lean).
  GIVEN WITH THE SEED: the statements are not yours to turn. If you find one false, say at which input.
  Laid BY PROGRAM, IN A SANDBOX (cutbox-rows.mjs): the forced cells as the released guide's own fill.sh prints them over the translation 691d1f208de6aca2… (all of the seat's roots in one cut). By AI agents, Wed Nov 11 2026. No macro, syntax, notation, axiom, sorry.
-/
import Derived.Test.YtbffpallhofonaaChecked
import GoSem.Claim
import GoSem.ClaimJoined
import GoSem.ClaimMapViews
import Derived.JoinedTies
import Derived.KernelRfl
namespace Go.Proofs.Ytbffpallhofonaa
/- THE CELL 'sum', in the pinned program and in every row, IS THE sha256 OF THE DUMP (.gsa) THAT YtbffpallhofonaaProg.lean LOADS. Nothing in Lean hashes anything: it is a label: what it is worth is what the hold of that sum in a sandbox is worth. -/
noncomputable def Try.pinned : Pinned := { name := "ytbffpallhofonaa", sum := "691d1f208de6aca2bacfa50d07d2c72885b220c14aea485062f1174baad18eae", checked := Try.checked }
namespace Rows
def none {H : Type} : Left H := { results := [], args := [] }

/-- 'horologelaw15.StampFractions': WHATEVER THE INPUT: true; the input reads as it did. -/
def stampFractionsSpec : ChangeSpec := { name := "stampFractions", fn := fun _ => fun
  | [d1, d2, d3] => { results := [.lit (.bool true)], args := [d1, d2, d3] }
  | _ => none }
def stampFractionsRow : OpenClaim := { program := "ytbffpallhofonaa", sum := "691d1f208de6aca2bacfa50d07d2c72885b220c14aea485062f1174baad18eae", func := "horologe/horologelaw15.StampFractions", spec := "stampFractions", apart := false }
def StampFractionsSaid : Prop := stampFractionsRow.holds Try.pinned (OpenSpec.ofChange stampFractionsSpec)

/-- ITS FALSE NEIGHBOUR: 'it returns false'. Refute it at one input. -/
def stampFractionsWrong : ChangeSpec := { name := "stampFractions", fn := fun _ => fun
  | [d1, d2, d3] => { results := [.lit (.bool false)], args := [d1, d2, d3] }
  | _ => none }
def StampFractionsWrongFalsely : Prop := stampFractionsRow.holds Try.pinned (OpenSpec.ofChange stampFractionsWrong)

/-- 'horologelaw15.StampTimes': WHATEVER THE INPUT: true; the input reads as it did. -/
def stampTimesSpec : ChangeSpec := { name := "stampTimes", fn := fun _ => fun
  | [d1, d2, d3] => { results := [.lit (.bool true)], args := [d1, d2, d3] }
  | _ => none }
def stampTimesRow : OpenClaim := { program := "ytbffpallhofonaa", sum := "691d1f208de6aca2bacfa50d07d2c72885b220c14aea485062f1174baad18eae", func := "horologe/horologelaw15.StampTimes", spec := "stampTimes", apart := false }
def StampTimesSaid : Prop := stampTimesRow.holds Try.pinned (OpenSpec.ofChange stampTimesSpec)

/-- ITS FALSE NEIGHBOUR: 'it returns false'. Refute it at one input. -/
def stampTimesWrong : ChangeSpec := { name := "stampTimes", fn := fun _ => fun
  | [d1, d2, d3] => { results := [.lit (.bool false)], args := [d1, d2, d3] }
  | _ => none }
def StampTimesWrongFalsely : Prop := stampTimesRow.holds Try.pinned (OpenSpec.ofChange stampTimesWrong)

/-- 'horologelaw15.StampBytes': WHATEVER THE INPUT: true; the input reads as it did. -/
def stampBytesSpec : ChangeSpec := { name := "stampBytes", fn := fun _ => fun
  | [d1, d2, d3] => { results := [.lit (.bool true)], args := [d1, d2, d3] }
  | _ => none }
def stampBytesRow : OpenClaim := { program := "ytbffpallhofonaa", sum := "691d1f208de6aca2bacfa50d07d2c72885b220c14aea485062f1174baad18eae", func := "horologe/horologelaw15.StampBytes", spec := "stampBytes", unfollowed := true, recurses := true, apart := false }
def StampBytesSaid : Prop := stampBytesRow.holds Try.pinned (OpenSpec.ofChange stampBytesSpec)

/-- ITS FALSE NEIGHBOUR: 'it returns false'. Refute it at one input. -/
def stampBytesWrong : ChangeSpec := { name := "stampBytes", fn := fun _ => fun
  | [d1, d2, d3] => { results := [.lit (.bool false)], args := [d1, d2, d3] }
  | _ => none }
def StampBytesWrongFalsely : Prop := stampBytesRow.holds Try.pinned (OpenSpec.ofChange stampBytesWrong)

/-- 'horologelaw15.StampBack': WHATEVER THE INPUT: true; the input reads as it did. -/
def stampBackSpec : ChangeSpec := { name := "stampBack", fn := fun _ => fun
  | [d1, d2, d3] => { results := [.lit (.bool true)], args := [d1, d2, d3] }
  | _ => none }
def stampBackRow : OpenClaim := { program := "ytbffpallhofonaa", sum := "691d1f208de6aca2bacfa50d07d2c72885b220c14aea485062f1174baad18eae", func := "horologe/horologelaw15.StampBack", spec := "stampBack", unfollowed := true, recurses := true, apart := false }
def StampBackSaid : Prop := stampBackRow.holds Try.pinned (OpenSpec.ofChange stampBackSpec)

/-- ITS FALSE NEIGHBOUR: 'it returns false'. Refute it at one input. -/
def stampBackWrong : ChangeSpec := { name := "stampBack", fn := fun _ => fun
  | [d1, d2, d3] => { results := [.lit (.bool false)], args := [d1, d2, d3] }
  | _ => none }
def StampBackWrongFalsely : Prop := stampBackRow.holds Try.pinned (OpenSpec.ofChange stampBackWrong)

/-- 'horologetop.WholeEras': WHATEVER THE INPUT: true; the input reads as it did. -/
def wholeErasSpec : ChangeSpec := { name := "wholeEras", fn := fun _ => fun
  | [d1, d2, d3] => { results := [.lit (.bool true)], args := [d1, d2, d3] }
  | _ => none }
def wholeErasRow : OpenClaim := { program := "ytbffpallhofonaa", sum := "691d1f208de6aca2bacfa50d07d2c72885b220c14aea485062f1174baad18eae", func := "horologe/horologetop.WholeEras", spec := "wholeEras", apart := false }
def WholeErasSaid : Prop := wholeErasRow.holds Try.pinned (OpenSpec.ofChange wholeErasSpec)

/-- ITS FALSE NEIGHBOUR: 'it returns false'. Refute it at one input. -/
def wholeErasWrong : ChangeSpec := { name := "wholeEras", fn := fun _ => fun
  | [d1, d2, d3] => { results := [.lit (.bool false)], args := [d1, d2, d3] }
  | _ => none }
def WholeErasWrongFalsely : Prop := wholeErasRow.holds Try.pinned (OpenSpec.ofChange wholeErasWrong)

/- THE SECOND FORM. 'bulk': how many values and letters a reading holds, each counted each time it is reached (what is shared counts as often as it is met; a slice's spare places count too). A statement '..UptoSaid' is the law's where the arguments, and the package variables that the reading takes, are together of bulk at most 1048576: NARROWER than '..Said'. Prove '..Said' where nothing that the law and all that it calls make is longer than what came in: it says more and counts as full. Else prove '..UptoSaid'. A law counts once. -/
mutual
def uptoBulk {H : Type} : DataW H → Nat
  | .lit (.string bytes) => bytes.length + 1
  | .lit _ => 1
  | .nil => 1
  | .ptr d => uptoBulk d + 1
  | .slice elems spare => uptoBulkAll elems + uptoBulkAll spare + 1
  | .agg parts => uptoBulkAll parts + 1
  | .iface _ d => uptoBulk d + 1
  | .map entries => uptoBulkEntries entries + 1
  | .held _ => 1
def uptoBulkAll {H : Type} : List (DataW H) → Nat
  | [] => 0
  | d :: r => uptoBulk d + uptoBulkAll r
def uptoBulkEntries {H : Type} : List (Lit × DataW H) → Nat
  | [] => 0
  | x :: r => uptoBulkEntry x + uptoBulkEntries r
def uptoBulkEntry {H : Type} : Lit × DataW H → Nat
  | (.string bytes, d) => bytes.length + uptoBulk d + 1
  | (_, d) => uptoBulk d + 1
 end
def uptoSmall : (H : Type) → List (DataW H) → Bool := fun _ ds => decide (uptoBulkAll ds ≤ 1048576)
def OpenSpec.upto (s : _root_.Go.ChangeSpec) : _root_.Go.OpenSpec := { _root_.Go.OpenSpec.ofChange s with cond := some uptoSmall }

/-- 'horologelaw15.StampFractions', WHERE WHAT IT READS IS OF BULK AT MOST 1048576: true; the input reads as it did. -/
def stampFractionsUptoRow : OpenClaim := { program := "ytbffpallhofonaa", sum := "691d1f208de6aca2bacfa50d07d2c72885b220c14aea485062f1174baad18eae", func := "horologe/horologelaw15.StampFractions", spec := "stampFractions", apart := false, narrowed := true }
def StampFractionsUptoSaid : Prop := stampFractionsUptoRow.holds Try.pinned (OpenSpec.upto stampFractionsSpec)

/-- 'horologelaw15.StampTimes', WHERE WHAT IT READS IS OF BULK AT MOST 1048576: true; the input reads as it did. -/
def stampTimesUptoRow : OpenClaim := { program := "ytbffpallhofonaa", sum := "691d1f208de6aca2bacfa50d07d2c72885b220c14aea485062f1174baad18eae", func := "horologe/horologelaw15.StampTimes", spec := "stampTimes", apart := false, narrowed := true }
def StampTimesUptoSaid : Prop := stampTimesUptoRow.holds Try.pinned (OpenSpec.upto stampTimesSpec)

/-- 'horologelaw15.StampBytes', WHERE WHAT IT READS IS OF BULK AT MOST 1048576: true; the input reads as it did. -/
def stampBytesUptoRow : OpenClaim := { program := "ytbffpallhofonaa", sum := "691d1f208de6aca2bacfa50d07d2c72885b220c14aea485062f1174baad18eae", func := "horologe/horologelaw15.StampBytes", spec := "stampBytes", unfollowed := true, recurses := true, apart := false, narrowed := true }
def StampBytesUptoSaid : Prop := stampBytesUptoRow.holds Try.pinned (OpenSpec.upto stampBytesSpec)

/-- 'horologelaw15.StampBack', WHERE WHAT IT READS IS OF BULK AT MOST 1048576: true; the input reads as it did. -/
def stampBackUptoRow : OpenClaim := { program := "ytbffpallhofonaa", sum := "691d1f208de6aca2bacfa50d07d2c72885b220c14aea485062f1174baad18eae", func := "horologe/horologelaw15.StampBack", spec := "stampBack", unfollowed := true, recurses := true, apart := false, narrowed := true }
def StampBackUptoSaid : Prop := stampBackUptoRow.holds Try.pinned (OpenSpec.upto stampBackSpec)

/-- 'horologetop.WholeEras', WHERE WHAT IT READS IS OF BULK AT MOST 1048576: true; the input reads as it did. -/
def wholeErasUptoRow : OpenClaim := { program := "ytbffpallhofonaa", sum := "691d1f208de6aca2bacfa50d07d2c72885b220c14aea485062f1174baad18eae", func := "horologe/horologetop.WholeEras", spec := "wholeEras", apart := false, narrowed := true }
def WholeErasUptoSaid : Prop := wholeErasUptoRow.holds Try.pinned (OpenSpec.upto wholeErasSpec)

end Rows
end Go.Proofs.Ytbffpallhofonaa
