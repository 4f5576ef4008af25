/- one: what words of one size are at a place of bytes. (Written by gen4.py.) -/
import Derived.Test.YtfkkniooigdmgaaOctJ
import Derived.Deep.RegionHeld3
import Derived.Deep.DeepCutAuto
import Derived.Deep.QuietTactic
import Derived.Deep.CutRange
import Derived.Deep.CutBlock
namespace Go.Proofs.Ytfkkniooigdmgaa
open Go.RowKit Go.WideShapes Go.ChangeShapes
set_option linter.unusedVariables false

theorem nequal_any (A B : Option Addr) (l m : List UInt8) (c d : Nat) (w : World) (h : Rb w A l) (hA : A = none → c = 0) (k : Rb w B m) (hB : B = none → d = 0) (e : l = m) :
    Calls Try.prog 14 #[.slice A l.length c, .slice B m.length d] w fun e w' => e = .returned (.bool true) ∧ w = w' := by
  subst e; exact nsame_any A B l c d w h hA k hB
/-- append of bytes to a row of the call's own, in a region that draws. -/
theorem app_step_b {ops : Array Oper} {o : Oper} {a : Act} {w : World} {K : Act → World → Prop} {Q : Exit → Act → World → Prop} {X : Prop} (s x : Operand) (base : Nat) (v : Value) (m : List UInt8) (hown : Oz w base 5 .u8 v (nums m))
    (A : Option Addr) (l : List UInt8) (c : Nat) (hr : Rb w A l) (hA : A = none → c = 0) (hm : m.length ≤ 1000000000) (hl : l.length ≤ 1000000000) (hbase : base ≤ w.heap.size)
    (hw : Region.wanted o (yielded ops a.tmps) = true) (ho : o.op = .call { callee := .builtin .append, args := #[s, x], argTypes := #[22, 22] }) (hs : a.eval s = v) (hx : a.eval x = .slice A l.length c)
    (h : ∀ A' c' w' r, r = m ++ l → Oz w' base 5 .u8 (.slice A' r.length c') (nums r) → Rb w' A' r → (A' = none → c' = 0) → r.length ≤ c' → Below base w w' → K (a.put o.dst (.slice A' r.length c')) w') :
    if Region.wanted o (yielded ops a.tmps) = true then Oper.wp Try.prog o a w K Q else X := by
  rw [if_pos hw]
  obtain ⟨v', w', hrun, h2, h3⟩ := run_app (P := Try.prog) w base 22 o.type 5 .u8 elb v (nums m) hown A (nums l) c hr hA (by rw [nums_len]; exact hm) (by rw [nums_len]; exact hl) hbase
  rw [nums_len] at hrun
  rw [← nums_app] at h2
  obtain ⟨A', c', rfl, h4, h5, h6⟩ := own_reads h2
  unfold Oper.wp execOp
  simp only [ho, resolve, invoke, builtin, Sem.run_bind, Sem.run_pure, Result.andThen_ok, List.map_toArray, List.map_cons, List.map_nil, hs, hx, hrun]
  exact h A' c' w' _ rfl h2 h4 h5 h6 h3
/-- append of bytes to a row of the call's own, in a plain region; what it holds then has a name. -/
theorem app_named {ops : Array Oper} {rest : List Oper} {o : Oper} {a : Act} {Q : Exit → Act → World → Prop} {w : World} (s x : Operand) (base : Nat) (v : Value) (m : List UInt8) (hown : Oz w base 5 .u8 v (nums m))
    (A : Option Addr) (l : List UInt8) (c : Nat) (hr : Rb w A l) (hA : A = none → c = 0) (hm : m.length ≤ 1000000000) (hl : l.length ≤ 1000000000) (hbase : base ≤ w.heap.size)
    (hgd : o.guard = none) (ho : o.op = .call { callee := .builtin .append, args := #[s, x], argTypes := #[22, 22] }) (hs : a.eval s = v) (hx : a.eval x = .slice A l.length c)
    (h : ∀ A' c' w' r, r = m ++ l → Oz w' base 5 .u8 (.slice A' r.length c') (nums r) → Rb w' A' r → (A' = none → c' = 0) → r.length ≤ c' → Below base w w' → wpList Try.prog ops Q rest (a.put o.dst (.slice A' r.length c')) w') :
    wpList Try.prog ops Q (o :: rest) a w :=
  app_bytes s x base v m hown A l c hr hA hm hl hbase hgd ho hs hx fun A' c' w' h1 h2 h3 h4 h5 => h A' c' w' _ rfl h1 h2 h3 h4 h5
end Go.Proofs.Ytfkkniooigdmgaa
