/- Package day: Date. -/
import Derived.Test.YtjbbnlcghnjlfaaDayC
namespace Go.Proofs.Ytjbbnlcghnjlfaa
open Go.RowKit
set_option linter.unusedVariables false

/-- Four results. -/
theorem results_tmp4 {fn : Func} {t u v x : Tmp} (h : fn.results = #[.tmp t, .tmp u, .tmp v, .tmp x]) (tmps : Array Value) (P : Program) (w : World) :
    (results fn tmps).run P w = .ok (.tuple #[tmps.getD t undef, tmps.getD u undef, tmps.getD v undef, tmps.getD x undef]) w := by
  simp [results, h]
theorem ret4_eq {x x' y y' z z' u u' : Value} (h : x = x') (k : y = y') (l : z = z') (m : u = u') : Ending.returned (.tuple #[x, y, z, u]) = Ending.returned (.tuple #[x', y', z', u']) := by rw [h, k, l, m]

end Go.Proofs.Ytjbbnlcghnjlfaa
