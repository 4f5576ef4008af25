/- Merged: FigM. -/
import Derived.Test.YtjbbnlcghnjlfaaGGpsTexts1
import Derived.Lib.ItoaNum
import Derived.Lib.TrimByte
import Derived.Lib.Strings
import Derived.Lib.Repeat
namespace Go.Proofs.Ytjbbnlcghnjlfaa
open Go.RowKit Go.Lib

/-- Is a byte a figure? -/
def isd (b : UInt8) : Bool := decide (48 ≤ b.toNat) && decide (b.toNat ≤ 57)
/-- A text's leading figures. -/
def lead : List UInt8 → Nat
  | [] => 0
  | b :: r => if isd b then lead r + 1 else 0
/-- The number of figures. -/
def dv (l : List UInt8) : Nat := l.foldl (fun n b => 10 * n + (b.toNat - 48)) 0
theorem lead_le : ∀ l : List UInt8, lead l ≤ l.length
  | [] => Nat.le_refl _
  | b :: r => by have := lead_le r; unfold lead; split <;> simp <;> omega
theorem lead_yes : ∀ {l : List UInt8} {i : Nat} (h : i < l.length), i < lead l → isd l[i] = true
  | b :: r, 0, _, hi => by
    unfold lead at hi; split at hi
    · assumption
    · omega
  | b :: r, i + 1, h, hi => by
    unfold lead at hi; split at hi
    · exact lead_yes (l := r) (by simpa using h) (by omega)
    · omega
theorem lead_no : ∀ {l : List UInt8} (h : lead l < l.length), isd l[lead l] = false
  | b :: r, h => by
    by_cases hb : isd b = true
    · have e : lead (b :: r) = lead r + 1 := by simp [lead, hb]
      have h' : lead r < r.length := by rw [e] at h; simpa using h
      have := lead_no h'
      simp only [e, List.getElem_cons_succ]; exact this
    · have e : lead (b :: r) = 0 := by simp [lead, hb]
      simp only [e, List.getElem_cons_zero]; simpa using hb
theorem lead_up {l : List UInt8} {i : Nat} (h : i < l.length) (hi : i ≤ lead l) (hd : isd l[i] = true) : i + 1 ≤ lead l := by
  rcases Nat.lt_or_ge i (lead l) with h1 | h1
  · omega
  · have e : i = lead l := by omega
    subst e
    rw [lead_no h] at hd; cases hd
theorem lead_at {l : List UInt8} {i : Nat} (h : i < l.length) (hi : i ≤ lead l) (hd : isd l[i] = false) : lead l = i := by
  rcases Nat.lt_or_ge i (lead l) with h1 | h1
  · rw [lead_yes h h1] at hd; cases hd
  · omega
theorem lead_all : ∀ {l : List UInt8}, (∀ b ∈ l, isd b = true) → lead l = l.length
  | [], _ => rfl
  | b :: r, h => by
    have := lead_all (l := r) fun c hc => h c (by simp [hc])
    simp [lead, h b (by simp), this]
theorem lead_mem : ∀ {l : List UInt8} {k : Nat}, k ≤ lead l → ∀ b ∈ l.take k, isd b = true
  | [], _, _, b, hb => by simp at hb
  | c :: r, 0, _, b, hb => by simp at hb
  | c :: r, k + 1, h, b, hb => by
    unfold lead at h; split at h
    · rename_i hc
      rcases (by simpa using hb : b = c ∨ b ∈ r.take k) with rfl | hb
      · exact hc
      · exact lead_mem (by omega) b hb
    · omega
theorem isd_bd {b : UInt8} (h : isd b = true) : 48 ≤ b.toNat ∧ b.toNat ≤ 57 := by unfold isd at h; simpa using h

theorem dv_snoc (l : List UInt8) (b : UInt8) : dv (l ++ [b]) = 10 * dv l + (b.toNat - 48) := by unfold dv; rw [List.foldl_append]; rfl
theorem foldl_shift (l : List UInt8) : ∀ n, l.foldl (fun n b => 10 * n + (b.toNat - 48)) n = n * 10 ^ l.length + dv l := by
  induction l with
  | nil => intro n; simp [dv]
  | cons b r ih =>
    intro n
    unfold dv
    rw [List.foldl_cons, ih, List.foldl_cons, ih]
    simp only [List.length_cons, Nat.pow_succ]
    simp only [Nat.add_mul, Nat.mul_zero, Nat.zero_add]
    rw [Nat.mul_comm (10 ^ r.length) 10, ← Nat.mul_assoc, Nat.mul_comm n 10]
    omega
theorem dv_append (l r : List UInt8) : dv (l ++ r) = dv l * 10 ^ r.length + dv r := by
  show (l ++ r).foldl _ 0 = _
  rw [List.foldl_append, foldl_shift]; rfl
theorem dv_cons (b : UInt8) (r : List UInt8) : dv (b :: r) = (b.toNat - 48) * 10 ^ r.length + dv r := by
  have := dv_append [b] r
  rw [show [b] ++ r = b :: r from rfl] at this
  rw [this]; simp [dv]
theorem dv_lt : ∀ {l : List UInt8}, (∀ b ∈ l, isd b = true) → dv l < 10 ^ l.length
  | [], _ => by simp [dv]
  | b :: r, h => by
    have hb := isd_bd (h b (by simp))
    have := dv_lt (l := r) fun c hc => h c (by simp [hc])
    rw [dv_cons, List.length_cons, Nat.pow_succ]
    have h1 : (b.toNat - 48) * 10 ^ r.length ≤ 9 * 10 ^ r.length := Nat.mul_le_mul_right _ (by omega)
    omega
theorem dv_take_le (l : List UInt8) (k : Nat) : dv (l.take k) ≤ dv l := by
  conv => rhs; rw [← List.take_append_drop k l, dv_append]
  have : dv (l.take k) * 1 ≤ dv (l.take k) * 10 ^ (l.drop k).length := Nat.mul_le_mul_left _ (Nat.one_le_pow _ _ (by decide))
  omega

/-! the figures of a number -/
end Go.Proofs.Ytjbbnlcghnjlfaa
