/- Merged: Sent, Tabs. -/
import Derived.Test.YtiamggjebaabkaaGreatDoorGListRemarks12
import Derived.Stop.LaidErr
import Derived.Test.YtiamggjebaabkaaGreatDoorGListRemarks1
namespace Go.Proofs.YtiamggjebaabkaaGreatDoor
open Go.RowKit

theorem sent_gs : Tryz.prog.globalNamed "strconv.ErrSyntax" = some 7 := by kernel_rfl
theorem sent_gr : Tryz.prog.globalNamed "strconv.ErrRange" = some 8 := by kernel_rfl
theorem sent_ts : (Tryz.prog.globals[7]?).map (·.type) = some 25 := by kernel_rfl
theorem sent_tr : (Tryz.prog.globals[8]?).map (·.type) = some 25 := by kernel_rfl
theorem sent_ce : Tryz.prog.cellsOf 274 = 1 := by kernel_rfl
theorem sent_cs : Tryz.prog.cellsOf 9 = 1 := by kernel_rfl
theorem sent_star : "*" ++ "errors.errorString" = "*errors.errorString" := by decide
theorem sent_row (u : TypeId) (h : Tryz.prog.typeName? 3 u = some "*errors.errorString") : u = 272 :=
  typeName_ptr_named (nm := "errors.errorString") (by rw [sent_star]; kernel_rfl) (by kernel_rfl) (by decide) u (by rw [sent_star]; exact h)
theorem ge_of {W : World} {x y : List UInt8} {r r' : List (String × DataW Unit)} (h : laidMet Tryz.prog (("strconv.ErrSyntax", .iface "*errors.errorString" (.ptr (.agg [.lit (.string x)]))) :: r) W)
    (k : laidMet Tryz.prog (("strconv.ErrRange", .iface "*errors.errorString" (.ptr (.agg [.lit (.string y)]))) :: r') W) : GE W := by
  obtain ⟨a0, s0, hv0, -, -, -⟩ := laid_sentinel h sent_gs sent_ts Tryz.underlying25 sent_row Tryz.underlying272 Tryz.underlying274 rfl rfl Tryz.underlying9 sent_ce sent_cs
  obtain ⟨a1, s1, hv1, -, -, -⟩ := laid_sentinel k sent_gr sent_tr Tryz.underlying25 sent_row Tryz.underlying272 Tryz.underlying274 rfl rfl Tryz.underlying9 sent_ce sent_cs
  exact ⟨⟨_, by have h0 := World.var?_cell sent_gs hv0 0; simpa using h0, .inr ⟨_, _, rfl⟩⟩, _, by have h0 := World.var?_cell sent_gr hv1 0; simpa using h0, .inr ⟨_, _, rfl⟩⟩

end Go.Proofs.YtiamggjebaabkaaGreatDoor

namespace Go.Proofs.YtiamggjebaabkaaGreatDoor
open Go.RowKit

theorem tabT : Tryz.prog.underlying 248 = some (.array 20 105) := Tryz.underlying248
theorem tabE : Tryz.prog.underlying 105 = some (.int .u64) := Tryz.underlying105
theorem endsT : Tryz.prog.underlying 236 = some (.array 13 3) := Tryz.underlying236
theorem endsE : Tryz.prog.underlying 3 = some (.int .i64) := Tryz.underlying3

end Go.Proofs.YtiamggjebaabkaaGreatDoor
