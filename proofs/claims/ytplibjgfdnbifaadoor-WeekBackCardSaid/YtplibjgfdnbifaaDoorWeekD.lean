/- Texts of days, as the document reads them: plain lists. No walk stands here. -/
import Derived.Test.YtplibjgfdnbifaaDoorWeekN
import Derived.Test.YtplibjgfdnbifaaDoorRefE
namespace Go.Proofs.YtplibjgfdnbifaaDoor
open Go.RowKit
set_option linter.unusedVariables false

theorem five {l : List UInt8} (h : l.length = 5) (hd : ∀ b ∈ l, isd b = true) : dv l ≤ 9999 ↔ l[0]? = some 48 := by
  match l, h with
  | a :: r, h =>
    have hr : r.length = 4 := by simpa using h
    have b := isd_bd (hd a (by simp))
    have c := dv_lt (l := r) (fun x hx => hd x (by simp [hx]))
    rw [dv_cons, hr]
    rw [hr] at c
    rw [List.getElem?_cons_zero, Option.some.injEq, ← UInt8.toNat_inj]
    show _ ↔ a.toNat = 48
    omega
theorem wh_gen {r : List UInt8} {a b : Nat} (h1 : 1 ≤ a) (h2 : a ≤ b) (h3 : b ≤ 5) (hl : r.length ≤ b) :
    (lead r < a → whE r a b mx = 2) ∧ (a ≤ lead r → lead r = r.length → whE r a b mx = 0 ∧ whN r a b mx = dv r) := by
  constructor
  · intro h
    unfold whE; rw [tk_not h1 h2 h3 h]; rfl
  · intro h e
    obtain ⟨t1, t2, t3⟩ := tk_yes h1 h2 h3 h
    rw [show min (lead r) b = r.length by omega] at t2 t3
    have x : whE r a b mx = 0 := by unfold whE; rw [t1, t3, if_pos rfl, if_neg (by omega)]
    refine ⟨x, ?_⟩
    unfold whN; rw [if_pos x, t2, List.take_length]
/-- Two bytes, one byte. -/
theorem wh_two {r : List UInt8} {n : Nat} (h1 : 1 ≤ n) (h5 : n ≤ 5) (hl : r.length = n) : (¬ n ≤ lead r → whE r n n mx = 2) ∧ (n ≤ lead r → whE r n n mx = 0 ∧ whN r n n mx = dv r) := by
  have h := wh_gen (r := r) h1 (Nat.le_refl n) h5 (by omega)
  have := lead_le r
  exact ⟨fun c => h.1 (by omega), fun c => h.2 c (by omega)⟩
theorem good_no {l : List UInt8} (h : yl l < 4 ∨ 5 < yl l ∨ (bd l).length ≠ yl l + 6) : ¬ Good l := by
  unfold Good
  rintro ⟨a, b, c, _⟩
  omega
theorem good_four {l : List UInt8} (hk : yl l = 4) (hl : (bd l).length = 10) : Good l ↔ ((bd l)[4]? = some 45 ∧ (bd l)[5]? = some 87 ∧ (bd l)[8]? = some 45 ∧
    2 ≤ lead (((bd l).drop 6).take 2) ∧ 1 ≤ lead ((bd l).drop 9) ∧ ¬ (sig l = 1 ∧ dv ((bd l).take 4) = 0)) := by
  unfold Good
  rw [hk, hl, lead_take]
  simp only [Nat.reduceAdd]
  constructor
  · rintro ⟨-, -, -, d, e, f, g, h, -, j⟩
    exact ⟨d, e, g, by omega, h, j⟩
  · rintro ⟨d, e, g, f, h, j⟩
    exact ⟨by omega, by omega, by trivial, d, e, by omega, g, h, by omega, j⟩
theorem good_five {l : List UInt8} (hk : yl l = 5) (hl : (bd l).length = 11) : Good l ↔ ((bd l)[5]? = some 45 ∧ (bd l)[6]? = some 87 ∧ (bd l)[9]? = some 45 ∧
    2 ≤ lead (((bd l).drop 7).take 2) ∧ 1 ≤ lead ((bd l).drop 10) ∧ ¬ (bd l)[0]? = some 48 ∧ ¬ (sig l = 1 ∧ dv ((bd l).take 5) = 0)) := by
  have f5 := five (l := (bd l).take 5) (by rw [List.length_take]; omega) (lead_mem (by unfold yl at hk; omega))
  rw [List.getElem?_take_of_lt (by omega)] at f5
  unfold Good
  rw [hk, hl, lead_take, f5]
  simp only [Nat.reduceAdd]
  constructor
  · rintro ⟨-, -, -, d, e, f, g, h, i, j⟩
    exact ⟨d, e, g, by omega, h, fun c => i ⟨by trivial, c⟩, j⟩
  · rintro ⟨d, e, g, f, h, i, j⟩
    exact ⟨by omega, by omega, by trivial, d, e, by omega, g, h, fun c => i c.2, j⟩
/-- A byte of a text, as the walk reads it. -/
theorem byte_is {X : ByteArray} {i : Nat} (h : i < X.size) (c : UInt8) : (X.data.toList[i]? = some c) ↔ ((X[i].toNat : Int) == (c.toNat : Int)) = true := by
  have e : X.data.toList[i]? = some X[i] := by
    rw [Array.getElem?_toList]; exact Array.getElem?_eq_getElem (by simpa using h)
  rw [e, Option.some.injEq, beq_iff_eq]
  constructor
  · rintro rfl; rfl
  · intro h; exact UInt8.toNat_inj.1 (by omega)
theorem byte_no {X : ByteArray} {i : Nat} (h : i < X.size) (c : UInt8) (hn : ¬ X.data.toList[i]? = some c) : ((X[i].toNat : Int) == (c.toNat : Int)) = false := by
  rw [byte_is h c] at hn; simpa using hn
/-- The text behind its sign. -/
theorem sign_is (s : ByteArray) : (s.size = 0 ∧ sig s.data.toList = 0 ∧ bd s.data.toList = s.data.toList) ∨
    (∃ h : 0 < s.size, ((((s[0].toNat : Int) == 45) = true ∧ sig s.data.toList = 1 ∧ bd s.data.toList = (s.extract 1 s.size).data.toList) ∨
      (((s[0].toNat : Int) == 45) = false ∧ sig s.data.toList = 0 ∧ bd s.data.toList = s.data.toList))) := by
  have e0 : s.data.toList.head? = s.data.toList[0]? := by rw [List.head?_eq_getElem?]
  rcases Nat.eq_zero_or_pos s.size with h | h
  · have e : s.data.toList = [] := List.eq_nil_of_length_eq_zero (by simpa using h)
    exact Or.inl ⟨h, by rw [e]; rfl, by rw [e]; rfl⟩
  · refine Or.inr ⟨h, ?_⟩
    by_cases c : s.data.toList[0]? = some 45
    · have g : sig s.data.toList = 1 := by unfold sig; rw [e0, if_pos c]
      exact Or.inl ⟨(byte_is h 45).1 c, g, by unfold bd; rw [g, Lib.extract_from]⟩
    · have g : sig s.data.toList = 0 := by unfold sig; rw [e0, if_neg c]
      exact Or.inr ⟨byte_no h 45 c, g, by unfold bd; rw [g, List.drop_zero]⟩
theorem w_cut_mid (X : ByteArray) (a b : Nat) : (X.extract a b).data.toList = (X.data.toList.drop a).take (b - a) := by
  rw [ByteArray.data_extract, Array.toList_extract]

end Go.Proofs.YtplibjgfdnbifaaDoor
