/- FiguresFractions, FiguresBack. -/
import Derived.Test.YthlampneheoedaaDoorLawA
import Derived.Deep.DeepCutAuto
import Derived.Deep.CutRange
namespace Go.Proofs.YthlampneheoedaaDoor
open Go.RowKit
set_option linter.unusedVariables false

theorem whE_lo' (l : List UInt8) (a b : Int) (lim : Nat) : 0 ≤ whE l a b lim ∧ whE l a b lim < 100 := by
  have h : 0 ≤ tkE l a b lim ∧ tkE l a b lim < 100 := by
    rcases tkE_cases l a b lim with h | h | h | h <;> rw [h] <;> decide
  unfold whE; split
  · split <;> decide
  · exact h
theorem frE_lo (l : List UInt8) : 0 ≤ frE l ∧ frE l < 100 := by
  unfold frE; split
  · decide
  · exact whE_lo' _ _ _ _

/-! what is read of what is put -/
theorem whole_of {l : List UInt8} {b : Int} {lim : Nat} (hd : ∀ c ∈ l, isd c = true) (h1 : 1 ≤ l.length) (hb : (l.length : Int) ≤ b) (hb2 : b ≤ 20) (hl : dv l ≤ lim) : whE l 1 b lim = 0 ∧ whN l 1 b lim = dv l := by
  have hlead := lead_all hd
  have hR : tkR 1 b = false := by unfold tkR; simp; omega
  have hk : tkk l b = l.length := by unfold tkk; omega
  have ht : l.take (tkk l b) = l := by rw [hk]; exact List.take_of_length_le (Nat.le_refl _)
  have hE : tkE l 1 b lim = 0 := by
    unfold tkE; rw [hR, if_neg (by decide), if_neg (by omega), ht]
    unfold vlE; rw [if_neg (by omega)]
  have hN : tkN l 1 b lim = dv l := by unfold tkN; rw [if_pos hE, ht]
  have hK : tkK l 1 b lim = l.length := by unfold tkK; rw [if_pos hE, hk]
  have e : whE l 1 b lim = 0 := by unfold whE; rw [if_pos hE, hK, if_neg (by omega)]
  exact ⟨e, by unfold whN; rw [if_pos e, hN]⟩
theorem not_first {l : List UInt8} {c : UInt8} (hd : ∀ b ∈ l, isd b = true) (hc : isd c = false) : Lib.hasPrefix l [c] = false := by
  cases l with
  | nil => rfl
  | cons b r =>
    simp only [Lib.hasPrefix, List.isPrefixOf, Bool.and_true]
    apply beq_false_of_ne
    rintro rfl
    rw [hd c (by simp)] at hc; cases hc
theorem trim_none {l : List UInt8} {c : UInt8} (h : Lib.hasPrefix l [c] = false) : Lib.trimPrefix l [c] = l := by unfold Lib.trimPrefix; rw [h]; rfl
/-- Signed reads what Put wrote. -/
theorem back_signed {n width : Int} (hn : fits n) (hw : ptE width = 0) : sgE (ptL n width) 20 = 0 ∧ sgN (ptL n width) 20 = n := by
  have hw' : ¬ (width < 0 ∨ 20 < width) := by
    intro h; unfold ptE at hw; rw [if_pos h] at hw; cases hw
  obtain ⟨D, hD⟩ : ∃ D, D = pad width.toNat (Lib.decDigits n.natAbs) := ⟨_, rfl⟩
  have e : ptL n width = if n < 0 then 45 :: D else D := by unfold ptL; rw [if_neg hw', hD]
  have hfit : n.natAbs ≤ 9223372036854775808 := by unfold fits at hn; omega
  have h19 : 9223372036854775808 < 10 ^ 19 := by decide
  have hdl := dec_len (k := 19) (u := n.natAbs) (by decide) (by omega)
  have hdp := dec_pos n.natAbs
  have hlen : D.length ≤ 20 := by rw [hD, pad_len]; omega
  have hlen1 : 1 ≤ D.length := by rw [hD, pad_len]; omega
  have hdd : ∀ b ∈ D, isd b = true := by rw [hD]; exact pad_isd (dec_isd _)
  have hdv : dv D = n.natAbs := by rw [hD, dv_pad, dec_dv]
  have hmx := mx_is
  have hmxn := mxn_is
  by_cases hneg : n < 0
  · rw [e, if_pos hneg]
    have hp : neg1 (45 :: D) = true := by simp [neg1, Lib.hasPrefix, List.isPrefixOf]
    have ht : Lib.trimPrefix (45 :: D) [45] = D := by unfold Lib.trimPrefix; rw [show Lib.hasPrefix (45 :: D) [45] = true from hp]; rfl
    obtain ⟨w1, w2⟩ := whole_of (l := D) (b := 20) (lim := mxn) hdd hlen1 (by omega) (by decide) (by rw [hdv]; omega)
    unfold sgE sgN
    rw [hp, ht, if_pos rfl, if_pos rfl, w1, w2, hdv]
    exact ⟨rfl, by omega⟩
  · rw [e, if_neg hneg]
    have hp : neg1 D = false := not_first hdd rfl
    have ht : Lib.trimPrefix D [43] = D := trim_none (not_first hdd rfl)
    obtain ⟨w1, w2⟩ := whole_of (l := D) (b := 20) (lim := mx) hdd hlen1 (by omega) (by decide) (by rw [hdv]; unfold fits at hn; omega)
    unfold sgE sgN
    rw [hp, ht, if_neg (by decide), if_neg (by decide), w1, w2, hdv]
    exact ⟨rfl, by omega⟩
theorem dv_small {l : List UInt8} (hd : ∀ c ∈ l, isd c = true) (h : l.length ≤ 9) : dv l ≤ mx := by
  have h1 := dv_lt hd
  have h2 : 10 ^ l.length ≤ 10 ^ 9 := Nat.pow_le_pow_right (by decide) h
  have h3 : 10 ^ 9 ≤ mx := by decide
  omega
theorem frac_of {l : List UInt8} (hd : ∀ c ∈ l, isd c = true) (h : l.length ≤ 9) (h1 : 1 ≤ l.length) : frE l = 0 ∧ frN l = ((dv l * 10 ^ (9 - l.length) : Nat) : Int) := by
  obtain ⟨w1, w2⟩ := whole_of (b := 9) (lim := mx) hd h1 (by omega) (by decide) (dv_small hd h)
  have e : frE l = 0 := by unfold frE; rw [if_neg (by omega), w1]
  exact ⟨e, by unfold frN; rw [if_pos e]⟩
/-- Fraction reads what PutFraction wrote. -/
theorem back_nine {nano : Int} (h : ¬ nf nano) : frE (pfL nano 9) = 0 ∧ frN (pfL nano 9) = nano := by
  have hl := nine_len h
  have e : pfL nano 9 = nine nano := by
    unfold pfL; rw [if_neg (by rintro (h' | h' | h'); exact h h'; all_goals omega)]
    exact List.take_of_length_le (by rw [hl]; decide)
  rw [e]
  obtain ⟨f1, f2⟩ := frac_of (nine_isd nano) (by omega) (by omega)
  refine ⟨f1, ?_⟩
  rw [f2, hl, show 9 - 9 = 0 from rfl, Nat.pow_zero, Nat.mul_one]
  exact nine_dv h
/-- What is cut off are noughts. -/
theorem trim_split (l : List UInt8) : l = Lib.trimRightB l 48 ++ List.replicate (l.length - (Lib.trimRightB l 48).length) 48 := by
  unfold Lib.trimRightB
  have h := List.takeWhile_append_dropWhile (p := fun b : UInt8 => b == 48) (l := l.reverse)
  have h2 : l.reverse.takeWhile (fun b : UInt8 => b == 48) = List.replicate (l.reverse.takeWhile (fun b : UInt8 => b == 48)).length 48 := by
    refine List.eq_replicate_of_mem fun b hb => ?_
    have := List.all_takeWhile (p := fun b : UInt8 => b == 48) (l := l.reverse)
    simpa using List.all_eq_true.1 this b hb
  have h3 : l = (l.reverse.dropWhile (fun b : UInt8 => b == 48)).reverse ++ (l.reverse.takeWhile (fun b : UInt8 => b == 48)).reverse := by
    rw [← List.reverse_append, h, List.reverse_reverse]
  have h4 : (l.reverse.takeWhile (fun b : UInt8 => b == 48)).length = l.length - (l.reverse.dropWhile (fun b : UInt8 => b == 48)).reverse.length := by
    have := congrArg List.length h
    simp only [List.length_append, List.length_reverse] at this ⊢
    omega
  conv => lhs; rw [h3, h2, List.reverse_replicate, h4]
/-- Fraction reads what Short wrote, if there is anything. -/
theorem back_short {nano : Int} (h : ¬ nf nano) : (frE (shL nano) == 0) = !(shL nano == []) ∧ frN (shL nano) = nano := by
  have hl := nine_len h
  have e : shL nano = Lib.trimRightB (nine nano) 48 := by unfold shL; rw [if_neg h]
  obtain ⟨t, ht⟩ : ∃ t, t = Lib.trimRightB (nine nano) 48 := ⟨_, rfl⟩
  have hs := trim_split (nine nano)
  rw [← ht, hl] at hs
  rw [e, ← ht]
  have hlen : t.length ≤ 9 := by
    have := congrArg List.length hs
    rw [hl] at this; simp at this; omega
  have hd : ∀ c ∈ t, isd c = true := fun c hc => nine_isd nano c (by rw [hs]; exact List.mem_append_left _ hc)
  have hv : dv (nine nano) = dv t * 10 ^ (9 - t.length) := by
    rw [hs, dv_append, dv_zeros, List.length_replicate]; rfl
  have hn := nine_dv h
  cases t with
  | nil =>
    refine ⟨rfl, ?_⟩
    rw [hv] at hn
    have e1 : frE [] ≠ 0 := by decide +kernel
    unfold frN; rw [if_neg e1]; simpa [dv] using hn
  | cons b r =>
    obtain ⟨f1, f2⟩ := frac_of hd hlen (by simp)
    rw [f1, f2, ← hv]
    exact ⟨rfl, hn⟩
end Go.Proofs.YthlampneheoedaaDoor
