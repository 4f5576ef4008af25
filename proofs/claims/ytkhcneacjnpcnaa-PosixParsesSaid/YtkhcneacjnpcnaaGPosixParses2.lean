/- Merged: Err, FigM. -/
import Derived.Test.YtkhcneacjnpcnaaRows
import Derived.Test.YtkhcneacjnpcnaaGPosixParses1
import Derived.WalkKit
import Derived.ProofKit
import Derived.OpenShut
import Derived.Handy
import Derived.Lib.Hide
import Derived.WalkSpells
import Derived.BigQuiet
import Derived.Deep.QuietTactic
import Derived.Outline
import Derived.Lib.ItoaNum
import Derived.Lib.TrimByte
import Derived.Lib.Strings
import Derived.Lib.Repeat
namespace Go.Proofs.Ytkhcneacjnpcnaa
open Go.RowKit

/-! errors as numbers -/
theorem num_nil (w : World) : Calls Try.prog 8 #[.nilIface] w fun e w' => e = .returned (.int .i64 0) ∧ w = w' := by
  go_enter Try.func8, Try.ntmps8
  go_wp2
  go_ret
  exact ⟨rfl, rfl⟩
set_option maxRecDepth 100000 in
theorem err_yes (W : World) (v : Value) : (Instr.typeAssert (.iface 54 v) 28 54 true).run Try.prog W = .ok (.tuple #[v, .bool true]) W := by kernel_rfl
theorem num_some (k : Int) (w : World) (hk : 0 < k) (hk' : k < 100) : Calls Try.prog 8 #[.iface 54 (.int .i64 k)] w fun e w' => e = .returned (.int .i64 k) ∧ w = w' := by
  have h0 : (k != 0) = true := bne_iff_ne.mpr (by omega)
  have h1 := err_yes w (.int .i64 k)
  go_enter Try.func8, Try.ntmps8
  go_wp2
  go_ret
  exact ⟨rfl, rfl⟩
theorem num_any (k : Int) (w : World) (hk : 0 ≤ k) (hk' : k < 100) : Calls Try.prog 8 #[ev k] w fun e w' => e = .returned (.int .i64 k) ∧ w = w' := by
  by_cases h : k = 0
  · subst h; exact num_nil w
  · rw [ev_pos (by omega)]; exact num_some k w (by omega) hk'
set_option maxRecDepth 100000 in
theorem eql_ev (W : World) (k : Int) : (binOp .eql 28 (ev k) .nilIface).run Try.prog W = .ok (.bool (k == 0)) W := by
  by_cases h : k = 0
  · subst h; kernel_rfl
  · have e : ev k = .iface 54 (.int .i64 k) := by unfold ev; rw [if_neg h]
    have hb : (k == 0) = false := by simpa using h
    rw [e, hb]
    exact (fun v => (by kernel_rfl : (binOp .eql 28 (.iface 54 v) .nilIface).run Try.prog W = .ok (.bool false) W)) _
set_option maxRecDepth 100000 in
theorem neq_ev (W : World) (k : Int) : (binOp .neq 28 (ev k) .nilIface).run Try.prog W = .ok (.bool (k != 0)) W := by
  by_cases h : k = 0
  · subst h; kernel_rfl
  · have e : ev k = .iface 54 (.int .i64 k) := by unfold ev; rw [if_neg h]
    have hb : (k != 0) = true := bne_iff_ne.mpr h
    rw [e, hb]
    exact (fun v => (by kernel_rfl : (binOp .neq 28 (.iface 54 v) .nilIface).run Try.prog W = .ok (.bool true) W)) _
theorem guard_ev (op : BinOp) (t : TypeId) (W : World) (x : Operand) (k : Int) : (eqGuard op t x (.const .nilIface) (ev k) .nilIface).run Try.prog W = .ok () W := by
  by_cases h : k = 0
  · subst h
    unfold eqGuard ev
    simp only [if_true]
    cases op <;> cases x <;> rfl
  · have e : ev k = .iface 54 (.int .i64 k) := by unfold ev; rw [if_neg h]
    rw [e]
    unfold eqGuard
    cases op <;> rfl
end Go.Proofs.Ytkhcneacjnpcnaa

namespace Go.Proofs.Ytkhcneacjnpcnaa
open Go.RowKit Go.Lib

/-- Is a byte a figure? -/
def isd (b : UInt8) : Bool := decide (48 ≤ b.toNat) && decide (b.toNat ≤ 57)
/-- A text's leading figures. -/
def lead : List UInt8 → Nat
  | [] => 0
  | b :: r => if isd b then lead r + 1 else 0
/-- The number of figures. -/
def dv (l : List UInt8) : Nat := l.foldl (fun n b => 10 * n + (b.toNat - 48)) 0
/-- At least so many figures. -/
def pad (w : Nat) (l : List UInt8) : List UInt8 := List.replicate (w - l.length) 48 ++ l

theorem lead_le : ∀ l : List UInt8, lead l ≤ l.length
  | [] => Nat.le_refl _
  | b :: r => by have := lead_le r; unfold lead; split <;> simp <;> omega
theorem lead_yes : ∀ {l : List UInt8} {i : Nat} (h : i < l.length), i < lead l → isd l[i] = true
  | b :: r, 0, _, hi => by
    unfold lead at hi; split at hi
    · assumption
    · omega
  | b :: r, i + 1, h, hi => by
    unfold lead at hi; split at hi
    · exact lead_yes (l := r) (by simpa using h) (by omega)
    · omega
theorem lead_no : ∀ {l : List UInt8} (h : lead l < l.length), isd l[lead l] = false
  | b :: r, h => by
    by_cases hb : isd b = true
    · have e : lead (b :: r) = lead r + 1 := by simp [lead, hb]
      have h' : lead r < r.length := by rw [e] at h; simpa using h
      have := lead_no h'
      simp only [e, List.getElem_cons_succ]; exact this
    · have e : lead (b :: r) = 0 := by simp [lead, hb]
      simp only [e, List.getElem_cons_zero]; simpa using hb
theorem lead_up {l : List UInt8} {i : Nat} (h : i < l.length) (hi : i ≤ lead l) (hd : isd l[i] = true) : i + 1 ≤ lead l := by
  rcases Nat.lt_or_ge i (lead l) with h1 | h1
  · omega
  · have e : i = lead l := by omega
    subst e
    rw [lead_no h] at hd; cases hd
theorem lead_at {l : List UInt8} {i : Nat} (h : i < l.length) (hi : i ≤ lead l) (hd : isd l[i] = false) : lead l = i := by
  rcases Nat.lt_or_ge i (lead l) with h1 | h1
  · rw [lead_yes h h1] at hd; cases hd
  · omega
theorem lead_all : ∀ {l : List UInt8}, (∀ b ∈ l, isd b = true) → lead l = l.length
  | [], _ => rfl
  | b :: r, h => by
    have := lead_all (l := r) fun c hc => h c (by simp [hc])
    simp [lead, h b (by simp), this]
theorem lead_mem : ∀ {l : List UInt8} {k : Nat}, k ≤ lead l → ∀ b ∈ l.take k, isd b = true
  | [], _, _, b, hb => by simp at hb
  | c :: r, 0, _, b, hb => by simp at hb
  | c :: r, k + 1, h, b, hb => by
    unfold lead at h; split at h
    · rename_i hc
      rcases (by simpa using hb : b = c ∨ b ∈ r.take k) with rfl | hb
      · exact hc
      · exact lead_mem (by omega) b hb
    · omega
theorem isd_bd {b : UInt8} (h : isd b = true) : 48 ≤ b.toNat ∧ b.toNat ≤ 57 := by unfold isd at h; simpa using h

theorem dv_snoc (l : List UInt8) (b : UInt8) : dv (l ++ [b]) = 10 * dv l + (b.toNat - 48) := by unfold dv; rw [List.foldl_append]; rfl
theorem dv_nil : dv [] = 0 := rfl
theorem foldl_shift (l : List UInt8) : ∀ n, l.foldl (fun n b => 10 * n + (b.toNat - 48)) n = n * 10 ^ l.length + dv l := by
  induction l with
  | nil => intro n; simp [dv]
  | cons b r ih =>
    intro n
    unfold dv
    rw [List.foldl_cons, ih, List.foldl_cons, ih]
    simp only [List.length_cons, Nat.pow_succ]
    simp only [Nat.add_mul, Nat.mul_zero, Nat.zero_add]
    rw [Nat.mul_comm (10 ^ r.length) 10, ← Nat.mul_assoc, Nat.mul_comm n 10]
    omega
theorem dv_append (l r : List UInt8) : dv (l ++ r) = dv l * 10 ^ r.length + dv r := by
  show (l ++ r).foldl _ 0 = _
  rw [List.foldl_append, foldl_shift]; rfl
theorem dv_zeros (k : Nat) : dv (List.replicate k 48) = 0 := by
  induction k with
  | zero => rfl
  | succ k ih => rw [List.replicate_succ', dv_snoc, ih]; rfl
theorem dv_pad (w : Nat) (l : List UInt8) : dv (pad w l) = dv l := by unfold pad; rw [dv_append, dv_zeros]; simp
theorem dv_cons (b : UInt8) (r : List UInt8) : dv (b :: r) = (b.toNat - 48) * 10 ^ r.length + dv r := by
  have := dv_append [b] r
  rw [show [b] ++ r = b :: r from rfl] at this
  rw [this]; simp [dv]
theorem dv_lt : ∀ {l : List UInt8}, (∀ b ∈ l, isd b = true) → dv l < 10 ^ l.length
  | [], _ => by simp [dv]
  | b :: r, h => by
    have hb := isd_bd (h b (by simp))
    have := dv_lt (l := r) fun c hc => h c (by simp [hc])
    rw [dv_cons, List.length_cons, Nat.pow_succ]
    have h1 : (b.toNat - 48) * 10 ^ r.length ≤ 9 * 10 ^ r.length := Nat.mul_le_mul_right _ (by omega)
    omega
theorem dv_take_le (l : List UInt8) (k : Nat) : dv (l.take k) ≤ dv l := by
  conv => rhs; rw [← List.take_append_drop k l, dv_append]
  have : dv (l.take k) * 1 ≤ dv (l.take k) * 10 ^ (l.drop k).length := Nat.mul_le_mul_left _ (Nat.one_le_pow _ _ (by decide))
  omega

/-! the figures of a number -/
theorem isd_ofNat {d : Nat} (h : d < 10) : isd (UInt8.ofNat (48 + d)) = true ∧ (UInt8.ofNat (48 + d)).toNat = 48 + d := by
  have : (UInt8.ofNat (48 + d)).toNat = 48 + d := by simp; omega
  refine ⟨?_, this⟩
  unfold isd; rw [this]; simp; omega
theorem dec_isd (u : Nat) : ∀ b ∈ decDigits u, isd b = true := by
  induction u using Nat.strongRecOn with
  | _ u ih =>
    intro b hb
    rw [decDigits] at hb
    split at hb
    · simp only [List.mem_singleton] at hb; subst hb; exact (isd_ofNat (by assumption)).1
    · simp only [List.mem_append, List.mem_singleton] at hb
      rcases hb with hb | rfl
      · exact ih (u / 10) (by omega) b hb
      · exact (isd_ofNat (Nat.mod_lt _ (by decide))).1
theorem dec_dv (u : Nat) : dv (decDigits u) = u := by
  induction u using Nat.strongRecOn with
  | _ u ih =>
    rw [decDigits]
    split
    · rename_i h
      show dv ([] ++ [_]) = u
      rw [dv_snoc, (isd_ofNat h).2, dv_nil]; omega
    · rw [dv_snoc, ih (u / 10) (by omega), (isd_ofNat (Nat.mod_lt _ (by decide))).2]; omega
theorem dec_pos (u : Nat) : 1 ≤ (decDigits u).length := by rw [decDigits_length]; exact nDigits_pos u
theorem nDig_le : ∀ (k u : Nat), 1 ≤ k → u < 10 ^ k → nDigits u ≤ k
  | 0, _, h, _ => by omega
  | k + 1, u, _, h => by
    by_cases h10 : u < 10
    · rw [nDigits_small h10]; omega
    · rw [nDigits_big h10]
      rcases Nat.eq_zero_or_pos k with rfl | hk
      · simp at h; omega
      · have := nDig_le k (u / 10) hk (by rw [Nat.pow_succ] at h; omega)
        omega
theorem dec_len {k u : Nat} (hk : 1 ≤ k) (h : u < 10 ^ k) : (decDigits u).length ≤ k := by rw [decDigits_length]; exact nDig_le k u hk h
theorem pad_len (w : Nat) (l : List UInt8) : (pad w l).length = max w l.length := by unfold pad; simp; omega
theorem pad_isd {w : Nat} {l : List UInt8} (h : ∀ b ∈ l, isd b = true) : ∀ b ∈ pad w l, isd b = true := by
  intro b hb
  unfold pad at hb
  rcases List.mem_append.1 hb with hb | hb
  · rw [List.eq_of_mem_replicate hb]; rfl
  · exact h b hb
end Go.Proofs.Ytkhcneacjnpcnaa
