/- The scales as plain numbers: atomic seconds, their days and seconds by a table, and back. No walk stands here. -/
import Derived.Test.YtiamggjebaabkaaDoorLeapM
import Derived.Test.YtiamggjebaabkaaDoorLabM
namespace Go.Proofs.YtiamggjebaabkaaDoor
open Go.RowKit
set_option linter.unusedVariables false

/-- The atomic seconds at which a row's day begins. -/
def bgn (L : List Rw) (i : Nat) : Int := 86400 * rd L i + ro L i
/-- How many of the first k rows' days have begun at atomic seconds t. -/
def cbg (L : List Rw) (t : Int) : Nat → Nat
  | 0 => 0
  | k + 1 => if bgn L k ≤ t then k + 1 else cbg L t k
def abg (L : List Rw) (t : Int) : Nat := cbg L t L.length
theorem cbg_le (L : List Rw) (t : Int) : ∀ k, cbg L t k ≤ k
  | 0 => Nat.le_refl _
  | k + 1 => by
    have := cbg_le L t k
    unfold cbg; split <;> omega
theorem abg_le (L : List Rw) (t : Int) : abg L t ≤ L.length := cbg_le _ _ _
theorem cbg_hi (L : List Rw) (t : Int) : ∀ k i, cbg L t k ≤ i → i < k → t < bgn L i
  | 0, i, _, h => absurd h (Nat.not_lt_zero _)
  | k + 1, i, h, hi => by
    unfold cbg at h
    split at h
    · omega
    · by_cases e : i = k
      · subst e; omega
      · exact cbg_hi L t k i h (by omega)
theorem abg_hi (L : List Rw) (t : Int) {i : Nat} (h : abg L t ≤ i) (hi : i < L.length) : t < bgn L i := cbg_hi L t _ i h hi
theorem cbg_at (L : List Rw) (t : Int) : ∀ k, 0 < cbg L t k → bgn L (cbg L t k - 1) ≤ t
  | 0, h => absurd h (Nat.lt_irrefl _)
  | k + 1, h => by
    unfold cbg at h ⊢
    split
    · simpa
    · rename_i e
      rw [if_neg e] at h
      exact cbg_at L t k h
theorem Vr.bgn_step {L : List Rw} (V : Vr L) {j : Nat} (hj : j + 1 < L.length) : bgn L j < bgn L (j + 1) := by
  have := V.ord j hj
  unfold bgn; omega
theorem Vr.bgn_mono {L : List Rw} (V : Vr L) {i j : Nat} (hij : i < j) (hj : j < L.length) : bgn L i < bgn L j := by
  induction j with
  | zero => omega
  | succ k ih =>
    have := V.bgn_step hj
    by_cases e : i = k
    · subst e; exact this
    · exact Int.lt_trans (ih (by omega) (by omega)) this
theorem Vr.abg_lo {L : List Rw} (V : Vr L) (t : Int) {i : Nat} (h : i < abg L t) : bgn L i ≤ t := by
  have h1 : bgn L (abg L t - 1) ≤ t := cbg_at L t _ (show 0 < cbg L t L.length from Nat.lt_of_le_of_lt (Nat.zero_le _) h)
  have h2 := abg_le L t
  by_cases e : i = abg L t - 1
  · subst e; exact h1
  · have := V.bgn_mono (i := i) (j := abg L t - 1) (by omega) (by omega)
    omega
theorem Vr.abg_is {L : List Rw} (V : Vr L) (t : Int) (k : Nat) (h : k ≤ L.length) (h1 : 0 < k → bgn L (k - 1) ≤ t) (h2 : k < L.length → t < bgn L k) : abg L t = k := by
  have a := abg_le L t
  rcases Nat.lt_trichotomy (abg L t) k with c | c | c
  · have b1 := h1 (by omega)
    have b2 := abg_hi L t (i := abg L t) (Nat.le_refl _) (by omega)
    by_cases e : abg L t = k - 1
    · rw [e] at b2; omega
    · have := V.bgn_mono (i := abg L t) (j := k - 1) (by omega) (by omega)
      omega
  · exact c
  · have b1 := V.abg_lo t c
    have b2 := h2 (by omega)
    omega
theorem Vr.af_is' {L : List Rw} (V : Vr L) (n : Int) (k : Nat) (h : k ≤ L.length) (h1 : 0 < k → rd L (k - 1) ≤ n) (h2 : k < L.length → n < rd L k) : af L n = k := by
  have a := af_le L n
  rcases Nat.lt_trichotomy (af L n) k with c | c | c
  · have b1 := h1 (by omega)
    have b2 := af_hi L n (i := af L n) (Nat.le_refl _) (by omega)
    by_cases e : af L n = k - 1
    · rw [e] at b2; omega
    · have := V.mono (i := af L n) (j := k - 1) (by omega) (by omega)
      omega
  · exact c
  · have b1 := V.af_lo n c
    have b2 := h2 (by omega)
    omega

/-- The second s of day n is there, and its atomic seconds are t. -/
def Plc (L : List Rw) (t n s : Int) : Prop := ofB L n = true ∧ 0 ≤ s ∧ s < 86400 + lpN L n ∧ t = 86400 * n + s + ofN L n
/-- The day and the second that a search by rows tells. -/
def tp0 (L : List Rw) (t : Int) : Int := (t - ro L (abg L t - 1)) / 86400
def tpR (L : List Rw) (t : Int) : Int := (t - ro L (abg L t - 1)) % 86400
def tpN (L : List Rw) (t : Int) : Int := if ofN L (tp0 L t) = ro L (abg L t - 1) then tp0 L t else tp0 L t - 1
def tpS (L : List Rw) (t : Int) : Int := if ofN L (tp0 L t) = ro L (abg L t - 1) then tpR L t else tpR L t + 86400
def tpE (L : List Rw) (t : Int) : Int := if abg L t = 0 then 8 else if 2932896 < tpN L t then 13 else 0
theorem tpE_lo (L : List Rw) (t : Int) : 0 ≤ tpE L t ∧ tpE L t < 100 := by
  unfold tpE
  repeat' split
  all_goals decide
theorem ofB_pos {L : List Rw} {n : Int} : ofB L n = true ↔ af L n ≠ 0 := by unfold ofB; simp
theorem ofN_at {L : List Rw} {n : Int} (h : af L n ≠ 0) : ofN L n = ro L (af L n - 1) := if_neg h
theorem lpN_at {L : List Rw} {n : Int} (h : af L n ≠ 0) : lpN L n = if af L n < L.length ∧ rd L (af L n) - 1 = n then ro L (af L n) - ro L (af L n - 1) else 0 := by
  unfold lpN nx; rw [if_neg h]
theorem Vr.ord' {L : List Rw} (V : Vr L) {k : Nat} (h0 : k ≠ 0) (hk : k < L.length) : rd L (k - 1) < rd L k ∧ (ro L k - ro L (k - 1) = 1 ∨ ro L k - ro L (k - 1) = -1) := by
  have := V.ord (k - 1) (by omega)
  rwa [show k - 1 + 1 = k by omega] at this

theorem pl_tp {L : List Rw} (V : Vr L) {t : Int} (h : abg L t ≠ 0) : Plc L t (tpN L t) (tpS L t) := by
  have hl := abg_le L t
  have b1 := V.abg_lo t (i := abg L t - 1) (by omega)
  have b2 := fun h' => abg_hi L t (i := abg L t) (Nat.le_refl _) h'
  unfold bgn at b1 b2
  have e : t - ro L (abg L t - 1) = 86400 * tp0 L t + tpR L t := by unfold tp0 tpR; omega
  have r0 : 0 ≤ tpR L t ∧ tpR L t < 86400 := by unfold tpR; omega
  unfold tpN tpS
  generalize tp0 L t = n at *
  generalize tpR L t = r at *
  generalize abg L t = k at *
  by_cases c : k < L.length ∧ rd L k ≤ n
  · have o := V.ord' h c.1
    have b2' := b2 c.1
    have e1 : rd L k = n := by omega
    have e2 : r = 0 := by omega
    have e3 : ro L k - ro L (k - 1) = 1 := by omega
    have a1 : af L n = k + 1 := V.af_is' n (k + 1) c.1 (fun _ => by simpa using c.2) (fun h' => by have := (V.ord k h').1; omega)
    have a2 : af L (n - 1) = k := V.af_is' (n - 1) k hl (fun _ => by omega) (fun h' => by omega)
    have o1 : ofN L n = ro L k := by rw [ofN_at (by omega), a1]; rfl
    rw [if_neg (by omega), if_neg (by omega)]
    refine ⟨ofB_pos.2 (by omega), by omega, ?_, ?_⟩
    · rw [lpN_at (by omega), a2, if_pos ⟨c.1, by omega⟩]; omega
    · rw [ofN_at (by omega), a2]; omega
  · have a1 : af L n = k := V.af_is' n k hl (fun _ => by omega) (fun h' => by omega)
    have o1 : ofN L n = ro L (k - 1) := by rw [ofN_at (by omega), a1]
    rw [if_pos o1, if_pos o1]
    refine ⟨ofB_pos.2 (by omega), by omega, ?_, by omega⟩
    rw [lpN_at (by omega), a1]
    split
    · rename_i q
      have := b2 q.1
      omega
    · omega
theorem pl_ab {L : List Rw} (V : Vr L) {t n s : Int} (h : Plc L t n s) : abg L t = af L n := by
  obtain ⟨h1, h2, h3, h4⟩ := h
  have h1' := ofB_pos.1 h1
  have ha := af_le L n
  rw [lpN_at h1'] at h3
  rw [ofN_at h1'] at h4
  have l1 := V.af_lo n (i := af L n - 1) (by omega)
  have l2 := fun h' => af_hi L n (i := af L n) (Nat.le_refl _) h'
  generalize af L n = k at *
  refine V.abg_is t k ha (fun _ => by unfold bgn; omega) (fun hk => ?_)
  have o := V.ord' h1' hk
  have l2' := l2 hk
  unfold bgn
  split at h3 <;> rename_i q
  · omega
  · have : ¬ rd L k - 1 = n := fun e => q ⟨hk, e⟩
    omega
theorem pl_one {L : List Rw} (V : Vr L) {t n s n' s' : Int} (h : Plc L t n s) (h' : Plc L t n' s') : n = n' ∧ s = s' := by
  have e := (pl_ab V h).symm.trans (pl_ab V h')
  obtain ⟨h1, h2, h3, h4⟩ := h
  obtain ⟨k1, k2, k3, k4⟩ := h'
  have a1 := ofB_pos.1 h1
  have a2 := ofB_pos.1 k1
  have l1 := V.af_lo n (i := af L n - 1) (by omega)
  have l2 := fun h' => af_hi L n (i := af L n) (Nat.le_refl _) h'
  have l3 := fun h' => af_hi L n' (i := af L n') (Nat.le_refl _) h'
  rw [lpN_at a1] at h3
  rw [lpN_at a2] at k3
  rw [ofN_at a1] at h4
  rw [ofN_at a2] at k4
  rw [← e] at k3 k4 a2 l3
  generalize af L n = k at *
  by_cases hk : k < L.length
  · have o := V.ord' a1 hk
    have := l2 hk
    have := l3 hk
    split at h3 <;> split at k3 <;> omega
  · rw [if_neg (fun q => hk q.1)] at h3 k3
    omega
/-- What has a moment is told by the search. -/
theorem tp_pl {L : List Rw} (V : Vr L) {t n s : Int} (h : Plc L t n s) : abg L t ≠ 0 ∧ tpN L t = n ∧ tpS L t = s := by
  have h0 : abg L t ≠ 0 := by rw [pl_ab V h]; exact ofB_pos.1 h.1
  have := pl_one V (pl_tp V h0) h
  exact ⟨h0, this.1, this.2⟩
theorem af_mono {L : List Rw} (V : Vr L) {n m : Int} (h : n ≤ m) : af L n ≤ af L m := by
  rcases Nat.lt_or_ge (af L m) (af L n) with c | c
  · have := V.af_lo n c
    have := af_hi L m (i := af L m) (Nat.le_refl _) (by have := af_le L n; omega)
    omega
  · exact c
/-- The later day has more atomic seconds. -/
theorem pl_lt {L : List Rw} (V : Vr L) {t n s t' n' s' : Int} (h : Plc L t n s) (h' : Plc L t' n' s') (hn : n < n') : t < t' := by
  have e := pl_ab V h
  have e' := pl_ab V h'
  have m := af_mono V (L := L) (show n ≤ n' by omega)
  rcases Nat.lt_or_ge (abg L t) (abg L t') with c | c
  · have b1 := V.abg_lo t' c
    have b2 := abg_hi L t (i := abg L t) (Nat.le_refl _) (by have := abg_le L t'; omega)
    omega
  · obtain ⟨h1, h2, h3, h4⟩ := h
    obtain ⟨k1, k2, k3, k4⟩ := h'
    have a1 := ofB_pos.1 h1
    have a2 := ofB_pos.1 k1
    have l3 := fun h' => af_hi L n' (i := af L n') (Nat.le_refl _) h'
    have ee : af L n' = af L n := by omega
    rw [lpN_at a1] at h3
    rw [ofN_at a1] at h4
    rw [ofN_at a2, ee] at k4
    rw [ee] at l3
    generalize af L n = k at *
    by_cases hk : k < L.length
    · have := l3 hk
      split at h3 <;> omega
    · rw [if_neg (fun q => hk q.1)] at h3
      omega
theorem pl_same {L : List Rw} {t n s t' s' : Int} (h : Plc L t n s) (h' : Plc L t' n s') : t' - t = s' - s := by
  have := h.2.2.2; have := h'.2.2.2; omega
/-- Bounds of what the search tells. -/
theorem tp_bd {L : List Rw} (V : Vr L) {t : Int} (h : abg L t ≠ 0) : -25568 ≤ tpN L t ∧ (0 ≤ tpS L t ∧ tpS L t ≤ 86400) ∧ (0 ≤ ofN L (tpN L t) ∧ ofN L (tpN L t) ≤ 1000) ∧ t = 86400 * tpN L t + tpS L t + ofN L (tpN L t) ∧ -2209075200 ≤ t := by
  obtain ⟨h1, h2, h3, h4⟩ := pl_tp V h
  have a1 := ofB_pos.1 h1
  have ha := af_le L (tpN L t)
  have o := V.off (af L (tpN L t) - 1) (by omega)
  have d := V.day (af L (tpN L t) - 1) (by omega)
  have l := V.af_lo (tpN L t) (i := af L (tpN L t) - 1) (by omega)
  have lb := V.lpN_bd (tpN L t)
  rw [← ofN_at a1] at o
  refine ⟨by omega, ⟨h2, by omega⟩, o, h4, by omega⟩

/-- A label's atomic seconds by a table; their error; whether its second is listed; its machine seconds. -/
def hsB (L : List Rw) (n s : Int) : Bool := decide (0 ≤ s) && decide (s < 86400 + lpN L n)
def liE (L : List Rw) (l : Lb) : Int := if lbE l = 0 then (if hsB L (lbN l) (lbT l) = true then 0 else 12) else lbE l
def taE (L : List Rw) (l : Lb) : Int := if lbE l = 0 then (if ofB L (lbN l) = true then (if hsB L (lbN l) (lbT l) = true then 0 else 12) else 8) else lbE l
def taV (L : List Rw) (l : Lb) : Int := if taE L l = 0 then 86400 * lbN l + lbT l + ofN L (lbN l) else 0
def poV (l : Lb) : Int := if lbE l = 0 then 86400 * lbN l + lbT l else 0
theorem liE_lo (L : List Rw) (l : Lb) : 0 ≤ liE L l ∧ liE L l < 100 := by
  have := lbE_lo l
  unfold liE
  repeat' split
  all_goals omega
theorem taE_lo (L : List Rw) (l : Lb) : 0 ≤ taE L l ∧ taE L l < 100 := by
  have := lbE_lo l
  unfold taE
  repeat' split
  all_goals omega
theorem taE_zero {L : List Rw} {l : Lb} (h : taE L l = 0) : lbE l = 0 ∧ ofB L (lbN l) = true ∧ hsB L (lbN l) (lbT l) = true := by
  unfold taE at h
  split at h
  · split at h
    · split at h
      · exact ⟨by assumption, by assumption, by assumption⟩
      · cases h
    · cases h
  · exact absurd h (by assumption)
theorem ta_pl {L : List Rw} {l : Lb} (h : taE L l = 0) : Plc L (taV L l) (lbN l) (lbT l) := by
  obtain ⟨h1, h2, h3⟩ := taE_zero h
  unfold hsB at h3
  simp only [Bool.and_eq_true, decide_eq_true_eq] at h3
  refine ⟨h2, h3.1, h3.2, ?_⟩
  unfold taV; rw [if_pos h]
theorem pl_ta {L : List Rw} {l : Lb} {t : Int} (h0 : lbE l = 0) (h : Plc L t (lbN l) (lbT l)) : taE L l = 0 ∧ taV L l = t := by
  have e : taE L l = 0 := by
    unfold taE
    rw [if_pos h0, if_pos h.1, if_pos]
    unfold hsB
    rw [decide_eq_true h.2.1, decide_eq_true h.2.2.1]; rfl
  refine ⟨e, ?_⟩
  unfold taV; rw [if_pos e, h.2.2.2]
/-- The day that the document looks for stands among three. -/
theorem tp_near {L : List Rw} (V : Vr L) {t : Int} (h : abg L t ≠ 0) : tpN L t = t.tdiv 86400 ∨ tpN L t = t.tdiv 86400 - 1 ∨ tpN L t = t.tdiv 86400 - 2 := by
  obtain ⟨b1, b2, b3, b4, b5⟩ := tp_bd V h
  have q : t.tdiv 86400 = t / 86400 ∨ t.tdiv 86400 = t / 86400 + 1 := by
    rcases Int.le_total 0 t with c | c
    · exact .inl (Int.tdiv_eq_ediv_of_nonneg c)
    · have e1 : (-t).tdiv 86400 = (-t) / 86400 := Int.tdiv_eq_ediv_of_nonneg (by omega)
      rw [Int.neg_tdiv] at e1
      omega
  generalize t.tdiv 86400 = q0 at *
  generalize tpN L t = n at *
  generalize tpS L t = s at *
  generalize ofN L n = o at *
  omega

end Go.Proofs.YtiamggjebaabkaaDoor
