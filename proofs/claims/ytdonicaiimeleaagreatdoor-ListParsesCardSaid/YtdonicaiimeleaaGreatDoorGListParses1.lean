/- Merged: NumM, FigM, ListM, Err, Blk. -/
import GoSem.Claim
import Derived.RowKit
import Derived.IntWalk
import Derived.Lib.ItoaNum
import Derived.Lib.TrimByte
import Derived.Lib.Strings
import Derived.Lib.Repeat
import Derived.Test.YtdonicaiimeleaaGreatDoorRows
import Derived.WalkKit
import Derived.ProofKit
import Derived.OpenShut
import Derived.Handy
import Derived.Lib.Hide
import Derived.WalkSpells
import Derived.BigQuiet
import Derived.Deep.QuietTactic
import Derived.Outline
import Derived.Deep.Draws
import Derived.Laws.Rows
namespace Go.Proofs.YtdonicaiimeleaaGreatDoor
open Go.RowKit

/-- Does a number fit 64 bits? -/
def fits (z : Int) : Prop := -9223372036854775808 ≤ z ∧ z ≤ 9223372036854775807
instance (z : Int) : Decidable (fits z) := by unfold fits; infer_instance
/-- The number, if it fits; else 0. -/
def sm (z : Int) : Int := if fits z then z else 0
/-- The error's number: 0, or 5 (over). -/
def bad (z : Int) : Int := if fits z then 0 else 5
/-- An error's value, by its number. -/
def ev (k : Int) : Value := if k = 0 then .nilIface else .iface 56 (.int .i64 k)

theorem ev_zero : ev 0 = .nilIface := rfl
theorem ev_pos {k : Int} (h : 0 < k) : ev k = .iface 56 (.int .i64 k) := by unfold ev; rw [if_neg (by omega)]
theorem sm_fit {z : Int} (h : fits z) : sm z = z := if_pos h
theorem sm_no {z : Int} (h : ¬ fits z) : sm z = 0 := if_neg h
theorem bad_fit {z : Int} (h : fits z) : bad z = 0 := if_pos h
theorem bad_no {z : Int} (h : ¬ fits z) : bad z = 5 := if_neg h
theorem ret2_eq {x x' y y' : Value} (h : x = x') (k : y = y') : Ending.returned (.tuple #[x, y]) = Ending.returned (.tuple #[x', y']) := by rw [h, k]
theorem ret3_eq {x x' y y' z z' : Value} (h : x = x') (k : y = y') (l : z = z') : Ending.returned (.tuple #[x, y, z]) = Ending.returned (.tuple #[x', y', z']) := by rw [h, k, l]
theorem int_eq {k : IntKind} {a b : Int} (h : a = b) : Value.int k a = Value.int k b := by rw [h]
theorem bool_eq {a b : Bool} (h : a = b) : Value.bool a = Value.bool b := by rw [h]
theorem ret1_eq {x x' : Value} (h : x = x') : Ending.returned x = Ending.returned x' := by rw [h]

/-! products -/
/-! quotients -/
/-- A number has one quotient and one rest. -/
theorem div_one {b q r q' r' : Int} (h : b * q + r = b * q' + r') (hr : (0 < b ∧ 0 ≤ r ∧ r < b) ∨ (b < 0 ∧ b < r ∧ r ≤ 0))
    (hr' : (0 < b ∧ 0 ≤ r' ∧ r' < b) ∨ (b < 0 ∧ b < r' ∧ r' ≤ 0)) : q = q' ∧ r = r' := by
  have e : b * (q - q') = r' - r := by rw [Int.mul_sub]; omega
  have hq : q - q' = 0 := by
    rcases Int.lt_trichotomy (q - q') 0 with h1 | h1 | h1
    · exfalso
      rcases hr with ⟨hb, _, _⟩ | ⟨hb, _, _⟩
      · have : b * (q - q') ≤ b * (-1) := Int.mul_le_mul_of_nonneg_left (by omega) (by omega)
        omega
      · have : b * (-1) ≤ b * (q - q') := Int.mul_le_mul_of_nonpos_left (by omega) (by omega)
        omega
    · exact h1
    · exfalso
      rcases hr with ⟨hb, _, _⟩ | ⟨hb, _, _⟩
      · have : b * 1 ≤ b * (q - q') := Int.mul_le_mul_of_nonneg_left (by omega) (by omega)
        omega
      · have : b * (q - q') ≤ b * 1 := Int.mul_le_mul_of_nonpos_left (by omega) (by omega)
        omega
  rw [hq] at e
  omega
theorem tmod_sgn (a b : Int) (hb : b ≠ 0) : (0 ≤ a → 0 ≤ a.tmod b) ∧ (a ≤ 0 → a.tmod b ≤ 0) ∧ (0 < b → -b < a.tmod b ∧ a.tmod b < b) ∧ (b < 0 → b < a.tmod b ∧ a.tmod b < -b) := by
  have hlt : (a.tmod b).natAbs < b.natAbs := by rw [Int.natAbs_tmod]; exact Nat.mod_lt _ (by omega)
  refine ⟨fun h => Int.tmod_nonneg b h, fun h => ?_, fun h => by omega, fun h => by omega⟩
  have := Int.tmod_nonneg b (a := -a) (by omega)
  rw [Int.neg_tmod] at this
  omega
theorem tdiv_fits {a b : Int} (ha : fits a) (hb : b ≠ 0) (hb1 : b ≠ -1) : fits (a.tdiv b) ∧ -9223372036854775807 ≤ a.tdiv b ∨ b = 1 := by
  by_cases h1 : b = 1
  · exact .inr h1
  refine .inl ?_
  have h : (a.tdiv b).natAbs ≤ a.natAbs / 2 := by
    rw [Int.natAbs_tdiv]
    exact Nat.div_le_div_left (by omega) (by omega)
  unfold fits at *
  omega
theorem tdiv_fit {a b : Int} (ha : fits a) (hb : b ≠ 0) (hb1 : b ≠ -1) : fits (a.tdiv b) := by
  rcases tdiv_fits ha hb hb1 with ⟨h, _⟩ | rfl
  · exact h
  · rwa [Int.tdiv_one]
end Go.Proofs.YtdonicaiimeleaaGreatDoor

namespace Go.Proofs.YtdonicaiimeleaaGreatDoor
open Go.RowKit Go.Lib

/-- Is a byte a figure? -/
def isd (b : UInt8) : Bool := decide (48 ≤ b.toNat) && decide (b.toNat ≤ 57)
/-- A text's leading figures. -/
def lead : List UInt8 → Nat
  | [] => 0
  | b :: r => if isd b then lead r + 1 else 0
/-- The number of figures. -/
def dv (l : List UInt8) : Nat := l.foldl (fun n b => 10 * n + (b.toNat - 48)) 0
/-- At least so many figures. -/
def pad (w : Nat) (l : List UInt8) : List UInt8 := List.replicate (w - l.length) 48 ++ l

theorem lead_le : ∀ l : List UInt8, lead l ≤ l.length
  | [] => Nat.le_refl _
  | b :: r => by have := lead_le r; unfold lead; split <;> simp <;> omega
theorem lead_yes : ∀ {l : List UInt8} {i : Nat} (h : i < l.length), i < lead l → isd l[i] = true
  | b :: r, 0, _, hi => by
    unfold lead at hi; split at hi
    · assumption
    · omega
  | b :: r, i + 1, h, hi => by
    unfold lead at hi; split at hi
    · exact lead_yes (l := r) (by simpa using h) (by omega)
    · omega
theorem lead_no : ∀ {l : List UInt8} (h : lead l < l.length), isd l[lead l] = false
  | b :: r, h => by
    by_cases hb : isd b = true
    · have e : lead (b :: r) = lead r + 1 := by simp [lead, hb]
      have h' : lead r < r.length := by rw [e] at h; simpa using h
      have := lead_no h'
      simp only [e, List.getElem_cons_succ]; exact this
    · have e : lead (b :: r) = 0 := by simp [lead, hb]
      simp only [e, List.getElem_cons_zero]; simpa using hb
theorem lead_up {l : List UInt8} {i : Nat} (h : i < l.length) (hi : i ≤ lead l) (hd : isd l[i] = true) : i + 1 ≤ lead l := by
  rcases Nat.lt_or_ge i (lead l) with h1 | h1
  · omega
  · have e : i = lead l := by omega
    subst e
    rw [lead_no h] at hd; cases hd
theorem lead_at {l : List UInt8} {i : Nat} (h : i < l.length) (hi : i ≤ lead l) (hd : isd l[i] = false) : lead l = i := by
  rcases Nat.lt_or_ge i (lead l) with h1 | h1
  · rw [lead_yes h h1] at hd; cases hd
  · omega
theorem lead_all : ∀ {l : List UInt8}, (∀ b ∈ l, isd b = true) → lead l = l.length
  | [], _ => rfl
  | b :: r, h => by
    have := lead_all (l := r) fun c hc => h c (by simp [hc])
    simp [lead, h b (by simp), this]
theorem lead_mem : ∀ {l : List UInt8} {k : Nat}, k ≤ lead l → ∀ b ∈ l.take k, isd b = true
  | [], _, _, b, hb => by simp at hb
  | c :: r, 0, _, b, hb => by simp at hb
  | c :: r, k + 1, h, b, hb => by
    unfold lead at h; split at h
    · rename_i hc
      rcases (by simpa using hb : b = c ∨ b ∈ r.take k) with rfl | hb
      · exact hc
      · exact lead_mem (by omega) b hb
    · omega
theorem isd_bd {b : UInt8} (h : isd b = true) : 48 ≤ b.toNat ∧ b.toNat ≤ 57 := by unfold isd at h; simpa using h

theorem dv_snoc (l : List UInt8) (b : UInt8) : dv (l ++ [b]) = 10 * dv l + (b.toNat - 48) := by unfold dv; rw [List.foldl_append]; rfl
theorem foldl_shift (l : List UInt8) : ∀ n, l.foldl (fun n b => 10 * n + (b.toNat - 48)) n = n * 10 ^ l.length + dv l := by
  induction l with
  | nil => intro n; simp [dv]
  | cons b r ih =>
    intro n
    unfold dv
    rw [List.foldl_cons, ih, List.foldl_cons, ih]
    simp only [List.length_cons, Nat.pow_succ]
    simp only [Nat.add_mul, Nat.mul_zero, Nat.zero_add]
    rw [Nat.mul_comm (10 ^ r.length) 10, ← Nat.mul_assoc, Nat.mul_comm n 10]
    omega
theorem dv_append (l r : List UInt8) : dv (l ++ r) = dv l * 10 ^ r.length + dv r := by
  show (l ++ r).foldl _ 0 = _
  rw [List.foldl_append, foldl_shift]; rfl
theorem dv_cons (b : UInt8) (r : List UInt8) : dv (b :: r) = (b.toNat - 48) * 10 ^ r.length + dv r := by
  have := dv_append [b] r
  rw [show [b] ++ r = b :: r from rfl] at this
  rw [this]; simp [dv]
theorem dv_lt : ∀ {l : List UInt8}, (∀ b ∈ l, isd b = true) → dv l < 10 ^ l.length
  | [], _ => by simp [dv]
  | b :: r, h => by
    have hb := isd_bd (h b (by simp))
    have := dv_lt (l := r) fun c hc => h c (by simp [hc])
    rw [dv_cons, List.length_cons, Nat.pow_succ]
    have h1 : (b.toNat - 48) * 10 ^ r.length ≤ 9 * 10 ^ r.length := Nat.mul_le_mul_right _ (by omega)
    omega
theorem dv_take_le (l : List UInt8) (k : Nat) : dv (l.take k) ≤ dv l := by
  conv => rhs; rw [← List.take_append_drop k l, dv_append]
  have : dv (l.take k) * 1 ≤ dv (l.take k) * 10 ^ (l.drop k).length := Nat.mul_le_mul_left _ (Nat.one_le_pow _ _ (by decide))
  omega

/-! the figures of a number -/
theorem isd_ofNat {d : Nat} (h : d < 10) : isd (UInt8.ofNat (48 + d)) = true ∧ (UInt8.ofNat (48 + d)).toNat = 48 + d := by
  have : (UInt8.ofNat (48 + d)).toNat = 48 + d := by simp; omega
  refine ⟨?_, this⟩
  unfold isd; rw [this]; simp; omega
theorem dec_isd (u : Nat) : ∀ b ∈ decDigits u, isd b = true := by
  induction u using Nat.strongRecOn with
  | _ u ih =>
    intro b hb
    rw [decDigits] at hb
    split at hb
    · simp only [List.mem_singleton] at hb; subst hb; exact (isd_ofNat (by assumption)).1
    · simp only [List.mem_append, List.mem_singleton] at hb
      rcases hb with hb | rfl
      · exact ih (u / 10) (by omega) b hb
      · exact (isd_ofNat (Nat.mod_lt _ (by decide))).1
theorem dec_pos (u : Nat) : 1 ≤ (decDigits u).length := by rw [decDigits_length]; exact nDigits_pos u
theorem nDig_le : ∀ (k u : Nat), 1 ≤ k → u < 10 ^ k → nDigits u ≤ k
  | 0, _, h, _ => by omega
  | k + 1, u, _, h => by
    by_cases h10 : u < 10
    · rw [nDigits_small h10]; omega
    · rw [nDigits_big h10]
      rcases Nat.eq_zero_or_pos k with rfl | hk
      · simp at h; omega
      · have := nDig_le k (u / 10) hk (by rw [Nat.pow_succ] at h; omega)
        omega
theorem dec_len {k u : Nat} (hk : 1 ≤ k) (h : u < 10 ^ k) : (decDigits u).length ≤ k := by rw [decDigits_length]; exact nDig_le k u hk h
end Go.Proofs.YtdonicaiimeleaaGreatDoor

namespace Go.Proofs.YtdonicaiimeleaaGreatDoor
set_option linter.unusedVariables false

/-- A blank or a tab. -/
def gp (b : UInt8) : Bool := b == 32 || b == 9
/-- Does a text begin with a gap? -/
def gpL (l : List UInt8) : Bool := match l with | [] => false | b :: _ => gp b

/-- Of the first i bytes: the lines that have ended, and where the next begins. -/
def lnS (l : List UInt8) : Nat → List (List UInt8) × Nat
  | 0 => ([], 0)
  | i + 1 => if l[i]? = some 10 then ((lnS l i).1 ++ [(l.drop (lnS l i).2).take (i - (lnS l i).2)], i + 1) else lnS l i
theorem lnS_le (l : List UInt8) : ∀ i, (lnS l i).2 ≤ i
  | 0 => Nat.le_refl _
  | i + 1 => by
    have := lnS_le l i
    unfold lnS; split <;> simp <;> omega
theorem lnS_len (l : List UInt8) : ∀ i, (lnS l i).1.length ≤ i
  | 0 => Nat.le_refl _
  | i + 1 => by
    have := lnS_len l i
    unfold lnS; split <;> simp <;> omega
/-- A text's lines. -/
def lnL (l : List UInt8) : List (List UInt8) := if (lnS l l.length).2 < l.length then (lnS l l.length).1 ++ [l.drop (lnS l l.length).2] else (lnS l l.length).1

/-- Words and the word under way: ended. -/
def fl (p : List (List UInt8) × List UInt8) : List (List UInt8) := if p.2 = [] then p.1 else p.1 ++ [p.2]
/-- Of the first i bytes (one behind the last counts as a gap): the words that have ended, and the one under way. -/
def wo (l : List UInt8) : Nat → List (List UInt8) × List UInt8
  | 0 => ([], [])
  | i + 1 => if (l[i]?.map gp).getD true = true then (fl (wo l i), []) else ((wo l i).1, (wo l i).2 ++ (l.drop i).take 1)
/-- A text's words. -/
def wdL (l : List UInt8) : List (List UInt8) := (wo l (l.length + 1)).1
theorem wo_len (l : List UInt8) : ∀ i, (wo l i).1.length ≤ i ∧ (wo l i).2.length ≤ i
  | 0 => ⟨Nat.le_refl _, Nat.le_refl _⟩
  | i + 1 => by
    obtain ⟨h1, h2⟩ := wo_len l i
    unfold wo
    split
    · refine ⟨?_, by simp⟩
      unfold fl
      split <;> simp <;> omega
    · refine ⟨Nat.le_succ_of_le h1, ?_⟩
      simp
      omega
theorem wo_gap {l : List UInt8} {i : Nat} {b : UInt8} (h : l[i]? = some b) (hb : gp b = true) : wo l (i + 1) = (fl (wo l i), []) := by
  rw [wo, h]; simp [hb]
theorem wo_end {l : List UInt8} {i : Nat} (h : l[i]? = none) : wo l (i + 1) = (fl (wo l i), []) := by
  rw [wo, h]; simp
theorem wo_sign {l : List UInt8} {i : Nat} {b : UInt8} (h : l[i]? = some b) (hb : gp b = false) : wo l (i + 1) = ((wo l i).1, (wo l i).2 ++ [b]) := by
  have hi := (List.getElem?_eq_some_iff.1 h).1
  have e : (l.drop i).take 1 = [b] := by
    rw [List.drop_eq_getElem_cons hi, (List.getElem?_eq_some_iff.1 h).2]; rfl
  rw [wo, h, e]; simp [hb]
/-- All words are short. -/
theorem wo_all (l : List UInt8) : ∀ i, ∀ w ∈ (wo l i).1, w.length ≤ i
  | 0 => by intro w hw; cases hw
  | i + 1 => by
    have ih := wo_all l i
    have h2 := (wo_len l i).2
    unfold wo
    split
    · intro w hw
      simp only [fl] at hw
      split at hw
      · have := ih w hw; omega
      · rw [List.mem_append] at hw
        rcases hw with hw | hw
        · have := ih w hw; omega
        · simp at hw; subst hw; omega
    · intro w hw
      have := ih w hw; omega

/-- The value of a sign of base 16, if it is one. -/
def hv (b : UInt8) : Option Nat :=
  if 48 ≤ b.toNat ∧ b.toNat ≤ 57 then some (b.toNat - 48) else if 97 ≤ b.toNat ∧ b.toNat ≤ 102 then some (b.toNat - 87) else if 65 ≤ b.toNat ∧ b.toNat ≤ 70 then some (b.toNat - 55) else none
theorem hv_lt {b : UInt8} {x : Nat} (h : hv b = some x) : x < 16 := by
  unfold hv at h
  split at h
  · injection h with h; omega
  split at h
  · injection h with h; omega
  split at h
  · injection h with h; omega
  · cases h
/-- The number of the first i signs, by 32 bits. -/
def hxS (l : List UInt8) : Nat → Nat
  | 0 => 0
  | i + 1 => (hxS l i * 16 + ((l[i]?.bind hv).getD 0)) % 4294967296
/-- Are all its bytes signs of base 16? -/
def hxA (l : List UInt8) : Bool := l.all fun b => (hv b).isSome
/-- What hex answers. -/
def hxN (l : List UInt8) : Nat := if hxA l = true then hxS l l.length else 0
def hxB (l : List UInt8) : Bool := hxA l && (decide (0 < l.length) && decide (l.length ≤ 8))

/-- Where a remark behind a gap begins, among the first i bytes; else the text's length. -/
def ctS (l : List UInt8) : Nat → Nat
  | 0 => l.length
  | i + 1 => if ctS l i < l.length then ctS l i else if 0 < i ∧ l[i]? = some 35 ∧ (l[i - 1]?.map gp) = some true then i else l.length
def ctL (l : List UInt8) : Nat := ctS l l.length
theorem ctS_le (l : List UInt8) : ∀ i, i ≤ l.length → ctS l i ≤ l.length
  | 0, _ => Nat.le_refl _
  | i + 1, h => by
    unfold ctS
    split
    · omega
    split
    · omega
    · exact Nat.le_refl _

end Go.Proofs.YtdonicaiimeleaaGreatDoor

namespace Go.Proofs.YtdonicaiimeleaaGreatDoor
open Go.RowKit

/-! errors as numbers -/
theorem num_nil (w : World) : Calls Tryz.prog 7 #[.nilIface] w fun e w' => e = .returned (.int .i64 0) ∧ w = w' := by
  go_enter Tryz.func7, Tryz.ntmps7
  go_wp2
  go_ret
  exact ⟨rfl, rfl⟩
set_option maxRecDepth 100000 in
theorem err_yes (W : World) (v : Value) : (Instr.typeAssert (.iface 56 v) 25 56 true).run Tryz.prog W = .ok (.tuple #[v, .bool true]) W := by kernel_rfl
theorem num_some (k : Int) (w : World) (hk : 0 < k) (hk' : k < 100) : Calls Tryz.prog 7 #[.iface 56 (.int .i64 k)] w fun e w' => e = .returned (.int .i64 k) ∧ w = w' := by
  have h0 : (k != 0) = true := bne_iff_ne.mpr (by omega)
  have h1 := err_yes w (.int .i64 k)
  go_enter Tryz.func7, Tryz.ntmps7
  go_wp2
  go_ret
  exact ⟨rfl, rfl⟩
theorem num_any (k : Int) (w : World) (hk : 0 ≤ k) (hk' : k < 100) : Calls Tryz.prog 7 #[ev k] w fun e w' => e = .returned (.int .i64 k) ∧ w = w' := by
  by_cases h : k = 0
  · subst h; exact num_nil w
  · rw [ev_pos (by omega)]; exact num_some k w (by omega) hk'
set_option maxRecDepth 100000 in
theorem eql_ev (W : World) (k : Int) : (binOp .eql 25 (ev k) .nilIface).run Tryz.prog W = .ok (.bool (k == 0)) W := by
  by_cases h : k = 0
  · subst h; kernel_rfl
  · have e : ev k = .iface 56 (.int .i64 k) := by unfold ev; rw [if_neg h]
    have hb : (k == 0) = false := by simpa using h
    rw [e, hb]
    exact (fun v => (by kernel_rfl : (binOp .eql 25 (.iface 56 v) .nilIface).run Tryz.prog W = .ok (.bool false) W)) _
set_option maxRecDepth 100000 in
theorem neq_ev (W : World) (k : Int) : (binOp .neq 25 (ev k) .nilIface).run Tryz.prog W = .ok (.bool (k != 0)) W := by
  by_cases h : k = 0
  · subst h; kernel_rfl
  · have e : ev k = .iface 56 (.int .i64 k) := by unfold ev; rw [if_neg h]
    have hb : (k != 0) = true := bne_iff_ne.mpr h
    rw [e, hb]
    exact (fun v => (by kernel_rfl : (binOp .neq 25 (.iface 56 v) .nilIface).run Tryz.prog W = .ok (.bool true) W)) _
theorem guard_ev (op : BinOp) (t : TypeId) (W : World) (x : Operand) (k : Int) : (eqGuard op t x (.const .nilIface) (ev k) .nilIface).run Tryz.prog W = .ok () W := by
  by_cases h : k = 0
  · subst h
    unfold eqGuard ev
    simp only [if_true]
    cases op <;> cases x <;> rfl
  · have e : ev k = .iface 56 (.int .i64 k) := by unfold ev; rw [if_neg h]
    rw [e]
    unfold eqGuard
    cases op <;> rfl
end Go.Proofs.YtdonicaiimeleaaGreatDoor

namespace Go.Proofs.YtdonicaiimeleaaGreatDoor
open Go.RowKit
set_option linter.unusedVariables false

theorem bk_cell {w : World} {g : Nat} {cs : Array Value} {t : TypeId} (h : w.heap[g]? = some (.cells cs t (0, 0))) (i : Nat) : w.cell? ⟨g, i, none⟩ = cs[i]? := by simp [World.cell?, h]
theorem bk_free {w : World} {g : Nat} {cs : Array Value} {t : TypeId} (h : w.heap[g]? = some (.cells cs t (0, 0))) (i : Nat) : w.frozen? ⟨g, i, none⟩ = false := by simp [World.frozen?, h]
theorem bk_lt {w : World} {g : Nat} {o : Obj} (h : w.heap[g]? = some o) : g < w.heap.size := by
  rcases Nat.lt_or_ge g w.heap.size with k | k
  · exact k
  · rw [Array.getElem?_eq_none k] at h; cases h
theorem bk_set {w : World} {g : Nat} {cs : Array Value} {t : TypeId} (h : w.heap[g]? = some (.cells cs t (0, 0))) (i : Nat) (u : Value) : (w.setCell ⟨g, i, none⟩ u).heap[g]? = some (.cells (cs.setIfInBounds i u) t (0, 0)) := by
  simp [World.setCell, Array.getElem?_modify, h]

end Go.Proofs.YtdonicaiimeleaaGreatDoor
