/- Plain: satellite weeks: a moment's week and second, a week's second as a moment, short weeks. No walk stands here. -/
import Derived.Test.YtbffpallhofonaaEraM
namespace Go.Proofs.Ytbffpallhofonaa
open Go.RowKit

/-- A moment's week, the second of it, the error's number. -/
def owE (t : Int) : Int := bad (t - 315964819)
def owN (t : Int) : Int := if fits (t - 315964819) then (t - 315964819) / 604800 else 0
def owS (t : Int) : Int := if fits (t - 315964819) then (t - 315964819) % 604800 else 0
/-- A week's second as a moment. -/
def taE (w s : Int) : Int := if s < 0 ∨ 604799 < s then 1 else if fits (w * 604800) ∧ fits (w * 604800 + s) ∧ fits (w * 604800 + s + 315964819) then 0 else 5
def taN (w s : Int) : Int := if taE w s = 0 then w * 604800 + s + 315964819 else 0
/-- A short week unfolded by a pivot. -/
def loE (x p : Int) : Int := if x < 0 ∨ 1023 < x then 1 else bad (un x p 10)
def loN (x p : Int) : Int := if x < 0 ∨ 1023 < x then 0 else sm (un x p 10)
/-- A short week's second about a moment. -/
def naE (x s p : Int) : Int := if owE p ≠ 0 then owE p else if loE x (owN p) ≠ 0 then loE x (owN p) else taE (loN x (owN p)) s
def naN (x s p : Int) : Int := if owE p ≠ 0 then 0 else if loE x (owN p) ≠ 0 then 0 else taN (loN x (owN p)) s

theorem ow_yes {t : Int} (h : fits (t - 315964819)) : owE t = 0 ∧ owN t = (t - 315964819) / 604800 ∧ owS t = (t - 315964819) % 604800 := ⟨bad_fit h, if_pos h, if_pos h⟩
theorem ow_no {t : Int} (h : ¬ fits (t - 315964819)) : owE t = 5 ∧ owN t = 0 ∧ owS t = 0 := ⟨bad_no h, if_neg h, if_neg h⟩
theorem owE_or (t : Int) : owE t = 0 ∨ owE t = 5 := by unfold owE bad; split <;> simp
theorem ow_bd (t : Int) : -15250284452472 ≤ owN t ∧ owN t ≤ 15250284452471 ∧ 0 ≤ owS t ∧ owS t ≤ 604799 := by
  by_cases h : fits (t - 315964819)
  · obtain ⟨_, e1, e2⟩ := ow_yes h
    rw [e1, e2]
    unfold fits at h
    omega
  · obtain ⟨_, e1, e2⟩ := ow_no h
    rw [e1, e2]
    omega
/-- The quotient toward 0, mended. -/
theorem ow_trunc {s : Int} : (s.tmod 604800 < 0 ∧ s / 604800 = s.tdiv 604800 - 1 ∧ s % 604800 = s.tmod 604800 + 604800) ∨ (¬ s.tmod 604800 < 0 ∧ s / 604800 = s.tdiv 604800 ∧ s % 604800 = s.tmod 604800) := by
  have h1 := tdm s 604800
  have h2 := tmod_sgn s 604800 (by decide)
  have h3 := Int.mul_ediv_add_emod s 604800
  have h4 := Int.emod_nonneg s (b := 604800) (by decide)
  have h5 := Int.emod_lt_of_pos s (b := 604800) (by decide)
  omega
theorem owS_fits (t : Int) : fits (owS t) := by have := ow_bd t; unfold fits; omega
theorem owN_fits (t : Int) : fits (owN t) := by have := ow_bd t; unfold fits; omega

theorem ta_range {w s : Int} (h : s < 0 ∨ 604799 < s) : taE w s = 1 ∧ taN w s = 0 := by
  have e : taE w s = 1 := if_pos h
  exact ⟨e, by unfold taN; rw [e]; rfl⟩
theorem ta_over {w s : Int} (h : ¬ (s < 0 ∨ 604799 < s)) (h2 : ¬ (fits (w * 604800) ∧ fits (w * 604800 + s) ∧ fits (w * 604800 + s + 315964819))) : taE w s = 5 ∧ taN w s = 0 := by
  have e : taE w s = 5 := by unfold taE; rw [if_neg h, if_neg h2]
  exact ⟨e, by unfold taN; rw [e]; rfl⟩
theorem ta_yes {w s : Int} (h : ¬ (s < 0 ∨ 604799 < s)) (h1 : fits (w * 604800)) (h2 : fits (w * 604800 + s)) (h3 : fits (w * 604800 + s + 315964819)) : taE w s = 0 ∧ taN w s = w * 604800 + s + 315964819 := by
  have e : taE w s = 0 := by unfold taE; rw [if_neg h, if_pos ⟨h1, h2, h3⟩]
  exact ⟨e, by unfold taN; rw [if_pos e]⟩
theorem taE_lo (w s : Int) : 0 ≤ taE w s ∧ taE w s < 100 := by
  unfold taE; split
  · decide
  · split <;> decide
theorem taN_fits (w s : Int) : fits (taN w s) := by
  unfold taN
  split
  · next h =>
    unfold taE at h
    split at h
    · cases h
    · split at h
      · next h2 => exact h2.2.2
      · cases h
  · decide

theorem pw_10 : pw 10 = 1024 := rfl
theorem hf_10 : hf 10 = 512 := rfl
theorem fo_10 (t : Int) : fo t 10 = t % 1024 := rfl
theorem lo_ref {x p : Int} (h : ¬ (x < 0 ∨ 1023 < x)) : bsE x 10 p = loE x p ∧ bsV x 10 p = loN x p := by
  have e1 := @bsE_n x p 10 (by decide) (by decide) (by rw [pw_10]; omega)
  have e2 := @bsV_n x p 10 (by decide) (by decide) (by rw [pw_10]; omega)
  exact ⟨e1.trans (if_neg h).symm, e2.trans (if_neg h).symm⟩
theorem lo_is {x p : Int} (hx : fits x) : bsE (x % 18446744073709551616) 10 p = loE x p ∧ bsV (x % 18446744073709551616) 10 p = loN x p := by
  unfold fits at hx
  by_cases h : x < 0 ∨ 1023 < x
  · have hb : pw 10 ≤ x % 18446744073709551616 := by rw [pw_10]; omega
    have := @bs_big (x % 18446744073709551616) p 10 hb
    exact ⟨this.1.trans (if_pos h).symm, this.2.trans (if_pos h).symm⟩
  · rw [show x % 18446744073709551616 = x by omega]
    exact lo_ref h
theorem loE_lo (x p : Int) : 0 ≤ loE x p ∧ loE x p < 100 := by
  unfold loE bad; split
  · decide
  · split <;> decide
theorem loN_fits (x p : Int) : fits (loN x p) := by
  unfold loN; split
  · decide
  · exact sm_fits _
theorem naE_lo (x s p : Int) : 0 ≤ naE x s p ∧ naE x s p < 100 := by
  unfold naE
  split
  · have := owE_or p; omega
  · split
    · exact loE_lo _ _
    · exact taE_lo _ _

/-! there and back -/
theorem ow_ta {t : Int} (ht : fits t) (h : fits (t - 315964819)) : (fits (owN t * 604800) ∧ taE (owN t) (owS t) = 0 ∧ taN (owN t) (owS t) = t) ∨ (taE (owN t) (owS t) = 5 ∧ taN (owN t) (owS t) = 0) := by
  obtain ⟨_, e1, e2⟩ := ow_yes h
  have hb := ow_bd t
  have e : owN t * 604800 + owS t = t - 315964819 := by rw [e1, e2]; omega
  have hs : ¬ (owS t < 0 ∨ 604799 < owS t) := by omega
  by_cases c : fits (owN t * 604800)
  · have hf : fits (owN t * 604800 + owS t) := by rw [e]; exact h
    have hf2 : fits (owN t * 604800 + owS t + 315964819) := by rw [e, show t - 315964819 + 315964819 = t by omega]; exact ht
    have := ta_yes hs c hf hf2
    exact .inl ⟨c, this.1, by rw [this.2, e]; omega⟩
  · exact .inr (ta_over hs (fun k => c k.1))
theorem na_back {t p : Int} (hp : owE p = 0) (h1 : owN p - 512 ≤ owN t) (h2 : owN t < owN p + 512) (h3 : taE (owN t) (owS t) = 0) (h4 : taN (owN t) (owS t) = t) :
    naE (fo (owN t) 10) (owS t) p = 0 ∧ naN (fo (owN t) 10) (owS t) p = t := by
  have hn : nr (owN t) (owN p) 10 = true := by unfold nr; rw [hf_10]; simp; omega
  have hu := un_fo (n := 10) (by decide) hn
  have hb := fo_bd (owN t) 10
  rw [pw_10] at hb
  have hr : ¬ (fo (owN t) 10 < 0 ∨ 1023 < fo (owN t) 10) := by omega
  have e1 : loE (fo (owN t) 10) (owN p) = 0 := by unfold loE; rw [if_neg hr, hu]; exact bad_fit (owN_fits t)
  have e2 : loN (fo (owN t) 10) (owN p) = owN t := by unfold loN; rw [if_neg hr, hu]; exact sm_fit (owN_fits t)
  constructor
  · unfold naE; rw [if_neg (by omega), if_neg (by omega), e2]; exact h3
  · unfold naN; rw [if_neg (by omega), if_neg (by omega), e2]; exact h4
end Go.Proofs.Ytbffpallhofonaa
