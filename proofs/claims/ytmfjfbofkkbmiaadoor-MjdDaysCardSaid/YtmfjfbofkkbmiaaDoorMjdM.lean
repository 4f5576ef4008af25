/- Package mjd: plain numbers and lists: a kind's epoch and word, counts, days, texts, five figures. No walk stands here. -/
import Derived.Test.YtmfjfbofkkbmiaaDoorFigC
namespace Go.Proofs.YtmfjfbofkkbmiaaDoor
open Go.RowKit
set_option linter.unusedVariables false

/-- A kind that there is. -/
def kn (k : Int) : Prop := 1 ≤ k ∧ k ≤ 4
instance (k : Int) : Decidable (kn k) := inferInstanceAs (Decidable (_ ∧ _))
/-- A kind's count of the day 0. -/
def ez (k : Int) : Int := if k = 1 then 40587 else if k = 2 then 2440588 else if k = 3 then 25567 else if k = 4 then -3657 else 0
/-- A kind's word. -/
def ew (k : Int) : List UInt8 := if k = 1 then [109, 111, 100, 105, 102, 105, 101, 100] else if k = 2 then [106, 117, 108, 105, 97, 110] else if k = 3 then [115, 116, 97, 109, 112, 101, 100] else if k = 4 then [115, 97, 116, 101, 108, 108, 105, 116, 101] else []
def kE (k : Int) : Int := if kn k then 0 else 11
/-- The number of no date. -/
def nod (n : Int) : Prop := n < -4371587 ∨ 2932896 < n
instance (n : Int) : Decidable (nod n) := inferInstanceAs (Decidable (_ ∨ _))
/-- Count: the error's number, the count. -/
def ctE (k n : Int) : Int := if kn k then (if nod n then 13 else 0) else 11
def ctN (k n : Int) : Int := if ctE k n = 0 then n + ez k else 0
/-- Day: the error's number, the day. -/
def dyE (k c : Int) : Int := if kn k then (if nod (c - ez k) then 13 else 0) else 11
def dyN (k c : Int) : Int := if dyE k c = 0 then c - ez k else 0
/-- Text. -/
def txL (k n : Int) : List UInt8 := if ctE k n = 0 then ptL (ctN k n) 0 else []
/-- Parse. -/
def psE (k : Int) (l : List UInt8) : Int := if kn k then (if sgE l 7 = 0 then dyE k (sgN l 7) else sgE l 7) else 11
def psN (k : Int) (l : List UInt8) : Int := if kn k then (if sgE l 7 = 0 then dyN k (sgN l 7) else 0) else 0
/-- Five. -/
def fvE (n : Int) : Int := if ctE 1 n = 0 then (if ctN 1 n < 0 ∨ 99999 < ctN 1 n then 1 else 0) else ctE 1 n
def fvL (n : Int) : List UInt8 := if fvE n = 0 then ptL (ctN 1 n) 5 else []
/-- ParseFive. -/
def is5 (l : List UInt8) : Prop := l.length = 5 ∧ lead l = 5
instance (l : List UInt8) : Decidable (is5 l) := inferInstanceAs (Decidable (_ ∧ _))
def p5N (l : List UInt8) : Int := if is5 l then (dv l : Int) - 40587 else 0
def p5E (l : List UInt8) : Int := if is5 l then 0 else 2

theorem ez_bd (k : Int) : -3657 ≤ ez k ∧ ez k ≤ 2440588 := by unfold ez; split <;> (try split) <;> (try split) <;> (try split) <;> omega
theorem kn_no {k : Int} (h : ¬ kn k) : ew k = [] ∧ ez k = 0 ∧ kE k = 11 := by
  have e : kE k = 11 := if_neg h
  unfold kn at h
  refine ⟨?_, ?_, e⟩
  · unfold ew; rw [if_neg (by omega), if_neg (by omega), if_neg (by omega), if_neg (by omega)]
  · unfold ez; rw [if_neg (by omega), if_neg (by omega), if_neg (by omega), if_neg (by omega)]
theorem kn_yes {k : Int} (h : kn k) : kE k = 0 ∧ (k = 1 ∨ k = 2 ∨ k = 3 ∨ k = 4) := ⟨if_pos h, by unfold kn at h; omega⟩
theorem ct_no {k : Int} (n : Int) (h : ¬ kn k) : ctE k n = 11 ∧ ctN k n = 0 := by
  have e : ctE k n = 11 := if_neg h
  exact ⟨e, if_neg (by rw [e]; decide)⟩
theorem ct_far {k n : Int} (h : kn k) (g : nod n) : ctE k n = 13 ∧ ctN k n = 0 := by
  have e : ctE k n = 13 := by unfold ctE; rw [if_pos h, if_pos g]
  exact ⟨e, if_neg (by rw [e]; decide)⟩
theorem ct_yes {k n : Int} (h : kn k) (g : ¬ nod n) : ctE k n = 0 ∧ ctN k n = n + ez k := by
  have e : ctE k n = 0 := by unfold ctE; rw [if_pos h, if_neg g]
  exact ⟨e, if_pos e⟩
theorem ctE_cases (k n : Int) : ctE k n = 11 ∨ ctE k n = 13 ∨ ctE k n = 0 := by
  unfold ctE; split
  · split
    · exact .inr (.inl rfl)
    · exact .inr (.inr rfl)
  · exact .inl rfl
theorem dy_no {k : Int} (c : Int) (h : ¬ kn k) : dyE k c = 11 ∧ dyN k c = 0 := by
  have e : dyE k c = 11 := if_neg h
  exact ⟨e, if_neg (by rw [e]; decide)⟩
theorem dy_far {k c : Int} (h : kn k) (g : nod (c - ez k)) : dyE k c = 13 ∧ dyN k c = 0 := by
  have e : dyE k c = 13 := by unfold dyE; rw [if_pos h, if_pos g]
  exact ⟨e, if_neg (by rw [e]; decide)⟩
theorem dy_yes {k c : Int} (h : kn k) (g : ¬ nod (c - ez k)) : dyE k c = 0 ∧ dyN k c = c - ez k := by
  have e : dyE k c = 0 := by unfold dyE; rw [if_pos h, if_neg g]
  exact ⟨e, if_pos e⟩
theorem dyE_cases (k n : Int) : dyE k n = 11 ∨ dyE k n = 13 ∨ dyE k n = 0 := by
  unfold dyE; split
  · split
    · exact .inr (.inl rfl)
    · exact .inr (.inr rfl)
  · exact .inl rfl
theorem ctE_lo (k n : Int) : 0 ≤ ctE k n ∧ ctE k n < 100 := by rcases ctE_cases k n with e | e | e <;> rw [e] <;> decide
theorem dyE_lo (k n : Int) : 0 ≤ dyE k n ∧ dyE k n < 100 := by rcases dyE_cases k n with e | e | e <;> rw [e] <;> decide
theorem ctN_fit (k n : Int) : fits (ctN k n) := by
  have hz := ez_bd k
  unfold ctN fits; split
  · rename_i h
    unfold ctE at h
    split at h
    · split at h
      · cases h
      · rename_i g; unfold nod at g; omega
    · cases h
  · omega

theorem whE_bd (l : List UInt8) (a b : Int) (lim : Nat) : 0 ≤ whE l a b lim ∧ whE l a b lim < 100 := by
  have h : 0 ≤ tkE l a b lim ∧ tkE l a b lim < 100 := by
    rcases tkE_cases l a b lim with h | h | h | h <;> rw [h] <;> decide
  unfold whE; split
  · split <;> decide
  · exact h
theorem sgE_bd (l : List UInt8) (m : Int) : 0 ≤ sgE l m ∧ sgE l m < 100 := by
  unfold sgE; split
  · exact whE_bd _ _ _ _
  · exact whE_bd _ _ _ _
theorem psE_lo (k : Int) (l : List UInt8) : 0 ≤ psE k l ∧ psE k l < 100 := by
  unfold psE; split
  · split
    · exact dyE_lo _ _
    · exact sgE_bd _ _
  · decide
theorem fvE_lo (n : Int) : 0 ≤ fvE n ∧ fvE n < 100 := by
  unfold fvE; split
  · split <;> decide
  · exact ctE_lo _ _

/-! five figures -/
theorem five_yes {l : List UInt8} (h : is5 l) : whE l 5 5 mx = 0 ∧ whN l 5 5 mx = dv l ∧ dv l ≤ 99999 := by
  obtain ⟨h1, h2⟩ := h
  have hR : tkR 5 5 = false := rfl
  have hk : tkk l 5 = 5 := by unfold tkk; rw [h2]; rfl
  have ht : l.take 5 = l := by rw [← h1]; exact List.take_length
  have hd : ∀ b ∈ l, isd b = true := by
    have := lead_mem (l := l) (k := 5) (by omega)
    rwa [ht] at this
  have hv := dv_lt hd
  rw [h1] at hv
  have hm : 10 ^ 5 ≤ mx := by decide
  have hE : tkE l 5 5 mx = 0 := by
    unfold tkE; rw [hR, if_neg (by decide), hk, if_neg (by decide), ht]
    unfold vlE; rw [if_neg (by omega)]
  have hN : tkN l 5 5 mx = dv l := by unfold tkN; rw [if_pos hE, hk, ht]
  have hK : tkK l 5 5 mx = 5 := by unfold tkK; rw [if_pos hE, hk]
  have e : whE l 5 5 mx = 0 := by unfold whE; rw [if_pos hE, hK, if_neg (by omega)]
  exact ⟨e, by unfold whN; rw [if_pos e, hN], by omega⟩
theorem five_no {l : List UInt8} (h : ¬ is5 l) : whE l 5 5 mx = 2 ∧ whN l 5 5 mx = 0 := by
  unfold is5 at h
  have hR : tkR 5 5 = false := rfl
  have hle := lead_le l
  have e : whE l 5 5 mx = 2 := by
    by_cases c : lead l < 5
    · have hk : tkk l 5 = lead l := by unfold tkk; show min (lead l) 5 = _; omega
      have hE : tkE l 5 5 mx = 2 := by
        unfold tkE; rw [hR, if_neg (by decide), hk, if_pos (by omega)]
      unfold whE; rw [hE]; rfl
    · have hk : tkk l 5 = 5 := by unfold tkk; show min (lead l) 5 = _; omega
      have hd : ∀ b ∈ l.take 5, isd b = true := lead_mem (by omega)
      have hv := dv_lt hd
      have hl : (l.take 5).length = 5 := by rw [List.length_take]; omega
      rw [hl] at hv
      have hm : 10 ^ 5 ≤ mx := by decide
      have hE : tkE l 5 5 mx = 0 := by
        unfold tkE; rw [hR, if_neg (by decide), hk, if_neg (by decide)]
        unfold vlE; rw [if_neg (by omega)]
      have hK : tkK l 5 5 mx = 5 := by unfold tkK; rw [if_pos hE, hk]
      unfold whE; rw [if_pos hE, hK, if_pos (by omega)]
  exact ⟨e, by unfold whN; rw [e]; rfl⟩
/-- What is put in five figures is read back. -/
theorem five_put {c : Int} (h : 0 ≤ c) (h' : c ≤ 99999) : ptL c 5 = pad 5 (Lib.decDigits c.natAbs) ∧ (ptL c 5).length = 5 ∧ is5 (ptL c 5) ∧ (dv (ptL c 5) : Int) = c := by
  have e : ptL c 5 = pad 5 (Lib.decDigits c.natAbs) := by unfold ptL; rw [if_neg (by decide), if_neg (by omega)]; rfl
  have hl := dec_len (k := 5) (u := c.natAbs) (by decide) (by omega)
  have hlen : (pad 5 (Lib.decDigits c.natAbs)).length = 5 := by rw [pad_len]; omega
  have hd : ∀ b ∈ pad 5 (Lib.decDigits c.natAbs), isd b = true := pad_isd (dec_isd _)
  rw [e]
  refine ⟨rfl, hlen, ⟨hlen, (lead_all hd).trans hlen⟩, ?_⟩
  rw [dv_pad, dec_dv]; omega

/-! there and back -/
theorem ct_dy {k n : Int} (h : ctE k n = 0) : dyE k (ctN k n) = 0 ∧ dyN k (ctN k n) = n := by
  have hk : kn k := by
    by_cases c : kn k
    · exact c
    · rw [(ct_no n c).1] at h; cases h
  have hn : ¬ nod n := fun c => by rw [(ct_far hk c).1] at h; cases h
  rw [(ct_yes hk hn).2]
  have e : n + ez k - ez k = n := by omega
  have := dy_yes (c := n + ez k) hk (by rw [e]; exact hn)
  rw [e] at this
  exact this
theorem dy_ct {k c : Int} (h : dyE k c = 0) : ctE k (dyN k c) = 0 ∧ ctN k (dyN k c) = c := by
  have hk : kn k := by
    by_cases b : kn k
    · exact b
    · rw [(dy_no c b).1] at h; cases h
  have hn : ¬ nod (c - ez k) := fun b => by rw [(dy_far hk b).1] at h; cases h
  rw [(dy_yes hk hn).2]
  have e : c - ez k + ez k = c := by omega
  have := ct_yes hk hn
  rw [e] at this
  exact this
theorem ct_next {k n : Int} (h : ctE k n = 0) (h' : ctE k (n + 1) = 0) : ctN k (n + 1) = ctN k n + 1 := by
  unfold ctN; rw [if_pos h, if_pos h']; omega
theorem ct_in {k n : Int} (h : ctE k n = 0) : -4371587 ≤ n ∧ n ≤ 2932896 := by
  have hk : kn k := by
    by_cases c : kn k
    · exact c
    · rw [(ct_no n c).1] at h; cases h
  have hn : ¬ nod n := fun c => by rw [(ct_far hk c).1] at h; cases h
  unfold nod at hn; omega
theorem fv_back {n : Int} (h : fvE n = 0) : fvL n = ptL (ctN 1 n) 5 ∧ (fvL n).length = 5 ∧ p5E (fvL n) = 0 ∧ p5N (fvL n) = n := by
  have e : fvL n = ptL (ctN 1 n) 5 := if_pos h
  unfold fvE at h
  split at h
  · rename_i g
    split at h
    · cases h
    · obtain ⟨-, a, b, c⟩ := five_put (c := ctN 1 n) (by omega) (by omega)
      rw [e]
      refine ⟨rfl, a, if_pos b, ?_⟩
      unfold p5N; rw [if_pos b, c]
      have := (ct_yes (k := 1) (n := n) (by decide) (by have := ct_in g; unfold nod; omega)).2
      rw [this]; show n + 40587 - 40587 = n; omega
  · rename_i g; exact absurd h g

end Go.Proofs.YtmfjfbofkkbmiaaDoor
