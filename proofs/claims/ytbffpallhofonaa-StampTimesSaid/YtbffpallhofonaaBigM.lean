/- Rows of digits to the base 65536: their numbers. Plain mathematics, no walk. -/
import Derived.RowKit
namespace Go.Proofs.Ytbffpallhofonaa

/-- The number of a row of digits, the lowest first. -/
def nv : List Nat → Nat
  | [] => 0
  | d :: r => d + 65536 * nv r
/-- The digit at i; 0 beyond the last one. -/
def dg (ds : List Nat) (i : Nat) : Nat := ds.getD i 0
/-- The number of the digits from i on. -/
def vd (ds : List Nat) (i : Nat) : Nat := nv (ds.drop i)
/-- All digits are less than the base. -/
def low (ds : List Nat) : Prop := ∀ d ∈ ds, d < 65536

theorem vd_zero (ds : List Nat) : vd ds 0 = nv ds := rfl
theorem vd_end {ds : List Nat} {i : Nat} (h : ds.length ≤ i) : vd ds i = 0 := by unfold vd; rw [List.drop_eq_nil_of_le h]; rfl
theorem dg_end {ds : List Nat} {i : Nat} (h : ds.length ≤ i) : dg ds i = 0 := by unfold dg; rw [List.getD_eq_getElem?_getD, List.getElem?_eq_none h]; rfl
theorem vd_step (ds : List Nat) (i : Nat) : vd ds i = dg ds i + 65536 * vd ds (i + 1) := by
  by_cases h : i < ds.length
  · unfold vd dg
    rw [List.drop_eq_getElem_cons h]
    simp [nv, List.getD_eq_getElem?_getD, List.getElem?_eq_getElem h]
  · rw [vd_end (by omega), vd_end (by omega), dg_end (by omega)]
theorem dg_low {ds : List Nat} (h : low ds) (i : Nat) : dg ds i < 65536 := by
  by_cases hi : i < ds.length
  · unfold dg
    rw [List.getD_eq_getElem?_getD, List.getElem?_eq_getElem hi]
    exact h _ (List.getElem_mem hi)
  · rw [dg_end (by omega)]; omega
theorem nv_snoc (ds : List Nat) (d : Nat) : nv (ds ++ [d]) = nv ds + 65536 ^ ds.length * d := by
  induction ds with
  | nil => simp [nv]
  | cons x r ih =>
    simp only [List.cons_append, nv, ih, List.length_cons, Nat.pow_succ]
    rw [Nat.mul_add, Nat.add_assoc]
    congr 2
    rw [Nat.mul_comm (65536 ^ r.length) 65536, Nat.mul_assoc]
theorem low_snoc {ds : List Nat} {d : Nat} (h : low ds) (hd : d < 65536) : low (ds ++ [d]) := by
  intro x hx
  rcases List.mem_append.mp hx with hx | hx
  · exact h x hx
  · rw [List.mem_singleton.mp hx]; exact hd
theorem low_nil : low [] := by intro d hd; cases hd
theorem nv_lt {ds : List Nat} (h : low ds) : nv ds < 65536 ^ ds.length := by
  induction ds with
  | nil => simp [nv]
  | cons x r ih =>
    have h1 := ih (fun d hd => h d (List.mem_cons_of_mem _ hd))
    have h2 := h x List.mem_cons_self
    simp only [nv, List.length_cons, Nat.pow_succ]
    omega
theorem nv_zeros (i : Nat) : nv (List.replicate i 0) = 0 := by
  induction i with
  | zero => rfl
  | succ i ih => rw [List.replicate_succ]; simp [nv, ih]
theorem low_zeros (i : Nat) : low (List.replicate i 0) := by
  intro d hd; rw [(List.mem_replicate.mp hd).2]; omega
theorem low_take {ds : List Nat} (h : low ds) (i : Nat) : low (ds.take i) := fun d hd => h d (List.mem_of_mem_take hd)

/-- A number is less where the digits from some place on are less. -/
theorem less_from {a b : List Nat} (ha : low a) : ∀ i, vd a i < vd b i → nv a < nv b := by
  intro i
  induction i with
  | zero => exact id
  | succ i ih =>
    intro h
    refine ih ?_
    have := vd_step a i; have := vd_step b i; have := dg_low ha i
    omega

/-- What a step of plus keeps. -/
theorem plus_step {o a b : List Nat} {i c T : Nat} (ho : o.length = i) (h : nv o + 65536 ^ i * (c + vd a i + vd b i) = T) :
    nv (o ++ [(dg a i + dg b i + c) % 65536]) + 65536 ^ (i + 1) * ((dg a i + dg b i + c) / 65536 + vd a (i + 1) + vd b (i + 1)) = T := by
  rw [nv_snoc, ho, ← h, Nat.add_assoc, Nat.pow_succ, Nat.mul_assoc, ← Nat.mul_add]
  congr 2
  rw [vd_step a i, vd_step b i]
  have := Nat.div_add_mod (dg a i + dg b i + c) 65536
  omega
/-- What a step of times' row keeps. -/
theorem row_step {o a : List Nat} {i k c x T : Nat} (ho : o.length = i + k) (h : nv o + 65536 ^ (i + k) * (c + vd a k * x) = T) :
    nv (o ++ [(dg a k * x + c) % 65536]) + 65536 ^ (i + (k + 1)) * ((dg a k * x + c) / 65536 + vd a (k + 1) * x) = T := by
  rw [nv_snoc, ho, ← h, Nat.add_assoc, ← Nat.add_assoc i k 1, Nat.pow_succ, Nat.mul_assoc, ← Nat.mul_add]
  congr 2
  rw [vd_step a k, Nat.add_mul, Nat.mul_assoc]
  have := Nat.div_add_mod (dg a k * x + c) 65536
  generalize dg a k * x = p at *
  generalize vd a (k + 1) * x = q at *
  omega
/-- What a step of minus keeps; 'l' is what was lent. -/
theorem minus_step {o a b : List Nat} {i l : Nat} {S T : Nat} (ho : o.length = i) (ha : low a) (hb : low b) (hl : l ≤ 1)
    (h : nv o + 65536 ^ i * vd a i + S = T + 65536 ^ i * (vd b i + l)) :
    nv (o ++ [(65536 + dg a i - dg b i - l) % 65536]) + 65536 ^ (i + 1) * vd a (i + 1) + S = T + 65536 ^ (i + 1) * (vd b (i + 1) + (1 - (65536 + dg a i - dg b i - l) / 65536)) := by
  have h1 := dg_low ha i; have h2 := dg_low hb i
  rw [vd_step a i, vd_step b i] at h
  rw [nv_snoc, ho, Nat.pow_succ]
  have hn := Nat.div_add_mod (65536 + dg a i - dg b i - l) 65536
  have hq : (65536 + dg a i - dg b i - l) / 65536 ≤ 1 := by omega
  generalize hN : 65536 + dg a i - dg b i - l = n at *
  have hm := Nat.mod_lt n (show 65536 > 0 by omega)
  generalize n % 65536 = r at *
  generalize n / 65536 = q at *
  generalize 65536 ^ i = P at *
  have key : r + dg b i + l = dg a i + 65536 * (1 - q) := by omega
  have kp := congrArg (P * ·) key
  simp only [Nat.mul_add, Nat.mul_assoc] at *
  omega
theorem minus_end {o a b : List Nat} {l : Nat} (ho : low o) (hoa : o.length = a.length) (hab : nv b ≤ nv a)
    (h : nv o + 65536 ^ a.length * vd a a.length + nv b = nv a + 65536 ^ a.length * (vd b a.length + l)) : nv o = nv a - nv b := by
  have h1 := nv_lt ho
  rw [hoa] at h1
  rw [vd_end (Nat.le_refl a.length)] at h
  generalize 65536 ^ a.length = P at *
  rcases Nat.eq_zero_or_pos (vd b a.length + l) with h0 | h0
  · rw [h0] at h; omega
  · have : P * 1 ≤ P * (vd b a.length + l) := Nat.mul_le_mul_left _ h0
    omega
/-- A row whose last digit isn't 0 is a number above 0. -/
theorem nv_pos_last {ds : List Nat} {n : Nat} (h : dg ds n ≠ 0) : 0 < nv ds := by
  have h1 : vd ds n = dg ds n + 65536 * vd ds (n + 1) := vd_step ds n
  have : ∀ i, 0 < vd ds i → 0 < nv ds := by
    intro i
    induction i with
    | zero => exact id
    | succ i ih => intro h; refine ih ?_; have := vd_step ds i; omega
  exact this n (by omega)
/-- A 0 at the end changes nothing. -/
theorem nv_cut {ds : List Nat} {n : Nat} (hn : ds.length = n + 1) (h : dg ds n = 0) : nv (ds.take n) = nv ds := by
  have e : ds = ds.take n ++ [dg ds n] := by
    have h1 := List.take_append_getElem (l := ds) (i := n) (by omega)
    have : dg ds n = ds[n]'(by omega) := by unfold dg; rw [List.getD_eq_getElem?_getD, List.getElem?_eq_getElem (by omega)]; rfl
    rw [this, h1, List.take_of_length_le (by omega)]
  conv => rhs; rw [e, nv_snoc, h]
  simp
theorem dg_take {ds : List Nat} {n j : Nat} (h : j < n) : dg (ds.take n) j = dg ds j := by
  unfold dg
  simp only [List.getD_eq_getElem?_getD]
  rw [List.getElem?_take_of_lt h]
theorem dg_snoc_lt {ds : List Nat} {d j : Nat} (h : j < ds.length) : dg (ds ++ [d]) j = dg ds j := by
  unfold dg
  simp only [List.getD_eq_getElem?_getD]
  rw [List.getElem?_append_left h]
end Go.Proofs.Ytbffpallhofonaa
