/- Merged: RulM, Err. -/
import Derived.Test.YtkhcneacjnpcnaaGreatDoorGPosixChecks2
import Derived.Test.YtkhcneacjnpcnaaGreatDoorRows
import Derived.Test.YtkhcneacjnpcnaaGreatDoorGPosixChecks1
import Derived.WalkKit
import Derived.ProofKit
import Derived.OpenShut
import Derived.Handy
import Derived.Lib.Hide
import Derived.WalkSpells
import Derived.BigQuiet
import Derived.Deep.QuietTactic
import Derived.Outline
namespace Go.Proofs.YtkhcneacjnpcnaaGreatDoor
open Go.RowKit
set_option linter.unusedVariables false

/-- A rule: its kind, month, week, day and time. -/
structure Ru where
  K : Int
  M : Int
  W : Int
  D : Int
  T : Int
def Ru.cells (r : Ru) : Array Value := #[.int .i64 r.K, .int .i64 r.M, .int .i64 r.W, .int .i64 r.D, .int .i64 r.T]
def Ru.Fit (r : Ru) : Prop := fits r.K ∧ fits r.M ∧ fits r.W ∧ fits r.D ∧ fits r.T
def ru0 : Ru := ⟨0, 0, 0, 0, 0⟩

/-- Is a number within two others? -/
def wiB (n a b : Int) : Bool := decide (a ≤ n) && decide (n ≤ b)
theorem wiB_yes {n a b : Int} : wiB n a b = true ↔ a ≤ n ∧ n ≤ b := by unfold wiB; simp
theorem wiB_no {n a b : Int} : wiB n a b = false ↔ ¬ (a ≤ n ∧ n ≤ b) := by
  rw [← wiB_yes]; simp
/-- Has a rule of its kind such a day? -/
def hdP (r : Ru) : Prop := if r.K = 3 then 1 ≤ r.M ∧ r.M ≤ 12 ∧ 1 ≤ r.W ∧ r.W ≤ 5 ∧ 0 ≤ r.D ∧ r.D ≤ 6 else r.M = 0 ∧ r.W = 0 ∧ (if r.K = 1 then 1 else 0) ≤ r.D ∧ r.D ≤ 365
instance (r : Ru) : Decidable (hdP r) := by unfold hdP; infer_instance
/-- Is it a known kind? A time of a rule? -/
def kdP (r : Ru) : Prop := 1 ≤ r.K ∧ r.K ≤ 3
instance (r : Ru) : Decidable (kdP r) := by unfold kdP; infer_instance
def tmP (r : Ru) : Prop := -604799 ≤ r.T ∧ r.T ≤ 604799
instance (r : Ru) : Decidable (tmP r) := by unfold tmP; infer_instance
/-- The error's number of a rule. -/
def ruE (r : Ru) : Int := if kdP r then (if hdP r ∧ tmP r then 0 else 1) else 11
theorem ruE_cases (r : Ru) : ruE r = 0 ∨ ruE r = 1 ∨ ruE r = 11 := by
  unfold ruE; split
  · split
    · exact .inl rfl
    · exact .inr (.inl rfl)
  · exact .inr (.inr rfl)
theorem ruE_zero {r : Ru} (h : ruE r = 0) : kdP r ∧ hdP r ∧ tmP r := by
  unfold ruE at h; split at h
  · next a =>
    split at h
    · next b => exact ⟨a, b.1, b.2⟩
    · cases h
  · cases h
theorem ruE_bd (r : Ru) : 0 ≤ ruE r ∧ ruE r < 100 := by rcases ruE_cases r with h | h | h <;> omega
/-- A right rule of each kind. -/
theorem ruE_kinds {r : Ru} (h : ruE r = 0) : (r.K = 1 ∧ r.M = 0 ∧ r.W = 0 ∧ 1 ≤ r.D ∧ r.D ≤ 365) ∨ (r.K = 2 ∧ r.M = 0 ∧ r.W = 0 ∧ 0 ≤ r.D ∧ r.D ≤ 365) ∨ (r.K = 3 ∧ 1 ≤ r.M ∧ r.M ≤ 12 ∧ 1 ≤ r.W ∧ r.W ≤ 5 ∧ 0 ≤ r.D ∧ r.D ≤ 6) := by
  obtain ⟨⟨a, b⟩, c, -⟩ := ruE_zero h
  unfold hdP at c
  rcases (by omega : r.K = 1 ∨ r.K = 2 ∨ r.K = 3) with k | k | k
  · rw [if_neg (by omega), if_pos k] at c; exact .inl ⟨k, c⟩
  · rw [if_neg (by omega), if_neg (by omega)] at c; exact .inr (.inl ⟨k, c⟩)
  · rw [if_pos k] at c; exact .inr (.inr ⟨k, c⟩)

/-! days -/
/-- The number of a month's first day. -/
def fm (y m : Int) : Int := st y + em y (m - 1)
/-- How many days ahead of the first such weekday. -/
def a0 (y m d : Int) : Int := (d - wd (fm y m) + 7) % 7
/-- What Day and At answer. -/
def yrP (y : Int) : Prop := -10001 ≤ y ∧ y ≤ 10001
instance (y : Int) : Decidable (yrP y) := by unfold yrP; infer_instance
/-! years that are alike -/
/-! the document's weekly day: days looked at one by one -/
/-! the document's plain day: by its month in a year of 365 days -/
/-! the rule's day as a date -/
end Go.Proofs.YtkhcneacjnpcnaaGreatDoor

namespace Go.Proofs.YtkhcneacjnpcnaaGreatDoor
open Go.RowKit

/-! errors as numbers -/
theorem num_nil (w : World) : Calls Tryz.prog 10 #[.nilIface] w fun e w' => e = .returned (.int .i64 0) ∧ w = w' := by
  go_enter Tryz.func10, Tryz.ntmps10
  go_wp2
  go_ret
  exact ⟨rfl, rfl⟩
set_option maxRecDepth 100000 in
theorem err_yes (W : World) (v : Value) : (Instr.typeAssert (.iface 52 v) 34 52 true).run Tryz.prog W = .ok (.tuple #[v, .bool true]) W := by kernel_rfl
theorem num_some (k : Int) (w : World) (hk : 0 < k) (hk' : k < 100) : Calls Tryz.prog 10 #[.iface 52 (.int .i64 k)] w fun e w' => e = .returned (.int .i64 k) ∧ w = w' := by
  have h0 : (k != 0) = true := bne_iff_ne.mpr (by omega)
  have h1 := err_yes w (.int .i64 k)
  go_enter Tryz.func10, Tryz.ntmps10
  go_wp2
  go_ret
  exact ⟨rfl, rfl⟩
theorem num_any (k : Int) (w : World) (hk : 0 ≤ k) (hk' : k < 100) : Calls Tryz.prog 10 #[ev k] w fun e w' => e = .returned (.int .i64 k) ∧ w = w' := by
  by_cases h : k = 0
  · subst h; exact num_nil w
  · rw [ev_pos (by omega)]; exact num_some k w (by omega) hk'
set_option maxRecDepth 100000 in
theorem eql_ev (W : World) (k : Int) : (binOp .eql 34 (ev k) .nilIface).run Tryz.prog W = .ok (.bool (k == 0)) W := by
  by_cases h : k = 0
  · subst h; kernel_rfl
  · have e : ev k = .iface 52 (.int .i64 k) := by unfold ev; rw [if_neg h]
    have hb : (k == 0) = false := by simpa using h
    rw [e, hb]
    exact (fun v => (by kernel_rfl : (binOp .eql 34 (.iface 52 v) .nilIface).run Tryz.prog W = .ok (.bool false) W)) _
set_option maxRecDepth 100000 in
theorem neq_ev (W : World) (k : Int) : (binOp .neq 34 (ev k) .nilIface).run Tryz.prog W = .ok (.bool (k != 0)) W := by
  by_cases h : k = 0
  · subst h; kernel_rfl
  · have e : ev k = .iface 52 (.int .i64 k) := by unfold ev; rw [if_neg h]
    have hb : (k != 0) = true := bne_iff_ne.mpr h
    rw [e, hb]
    exact (fun v => (by kernel_rfl : (binOp .neq 34 (.iface 52 v) .nilIface).run Tryz.prog W = .ok (.bool true) W)) _
theorem guard_ev (op : BinOp) (t : TypeId) (W : World) (x : Operand) (k : Int) : (eqGuard op t x (.const .nilIface) (ev k) .nilIface).run Tryz.prog W = .ok () W := by
  by_cases h : k = 0
  · subst h
    unfold eqGuard ev
    simp only [if_true]
    cases op <;> cases x <;> rfl
  · have e : ev k = .iface 52 (.int .i64 k) := by unfold ev; rw [if_neg h]
    rw [e]
    unfold eqGuard
    cases op <;> rfl
end Go.Proofs.YtkhcneacjnpcnaaGreatDoor
