/- Merged: GpsN. -/
import Derived.Test.YtjbbnlcghnjlfaaGGpsTexts2
import Derived.Test.YtjbbnlcghnjlfaaGGpsTexts40
import Derived.Test.YtjbbnlcghnjlfaaGGpsTexts41
namespace Go.Proofs.Ytjbbnlcghnjlfaa
open Go.RowKit
set_option linter.unusedVariables false

/-- Is a text's week wrong? -/
def wb (l : List UInt8) : Prop := yl l < 4 ∨ (4 < yl l ∧ (bd l).head? = some 48) ∨ (sig l = 1 ∧ (bd l).take (yl l) = [48, 48, 48, 48])
instance (l : List UInt8) : Decidable (wb l) := by unfold wb; infer_instance
/-- Has a text the form of a moment? -/
def gGood (l : List UInt8) : Prop := ¬ wb l ∧ (bd l).length = yl l + 7 ∧ (bd l)[yl l]? = some 58 ∧ 6 ≤ lead ((bd l).drop (yl l + 1))
instance (l : List UInt8) : Decidable (gGood l) := by unfold gGood; infer_instance
/-- Its second (its week is gY). -/
def gS (l : List UInt8) : Int := ((dv ((bd l).drop (yl l + 1)) : Nat) : Int)
/-- The week's text, with its sign. -/
def wtx (l : List UInt8) : List UInt8 := l.take (sig l + yl l)
/-- What Parse answers. -/
def gpE (l : List UInt8) : Int := if gGood l then (if fits (gY l) then taE (gY l) (gS l) else 5) else 2
def gpN (l : List UInt8) : Int := if gGood l then (if fits (gY l) then taN (gY l) (gS l) else 0) else 0

/-! figures alone -/
theorem inB_isd (c : UInt8) : inB [48, 49, 50, 51, 52, 53, 54, 55, 56, 57] c = isd c := by
  have h : ∀ n, n < 256 → inB [48, 49, 50, 51, 52, 53, 54, 55, 56, 57] (UInt8.ofNat n) = isd (UInt8.ofNat n) := by decide +kernel
  have := h c.toNat c.toNat_lt
  simpa using this
theorem tw_lead : ∀ l : List UInt8, tw (inB [48, 49, 50, 51, 52, 53, 54, 55, 56, 57]) l = lead l
  | [] => rfl
  | b :: r => by unfold tw lead; rw [inB_isd, tw_lead r]
theorem dv18 {r : List UInt8} {k : Nat} (h : k ≤ lead r) (h5 : k ≤ 18) : dv (r.take k) < 1000000000000000000 := by
  have a := dv_lt (lead_mem h)
  have b : (r.take k).length ≤ 18 := by rw [List.length_take]; omega
  have c : 10 ^ (r.take k).length ≤ 10 ^ 18 := Nat.pow_le_pow_right (by decide) b
  omega
theorem tk_yes18 {r : List UInt8} {a b : Nat} (h1 : 1 ≤ a) (h2 : a ≤ b) (h3 : b ≤ 18) (h : a ≤ lead r) :
    tkE r a b mx = 0 ∧ tkN r a b mx = dv (r.take (min (lead r) b)) ∧ tkK r a b mx = min (lead r) b := by
  have hR : tkR (a : Int) (b : Int) = false := by unfold tkR; simp; omega
  have hk : tkk r (b : Int) = min (lead r) b := by unfold tkk; simp
  have hd := dv18 (r := r) (k := min (lead r) b) (by omega) (by omega)
  have e : tkE r a b mx = 0 := by
    unfold tkE; rw [hR, hk, if_neg (by decide), if_neg (by omega)]
    unfold vlE; rw [if_neg (by have := mx_is; omega)]
  refine ⟨e, ?_, ?_⟩
  · unfold tkN; rw [if_pos e, hk]
  · unfold tkK; rw [if_pos e, hk]
theorem tk_not18 {r : List UInt8} {a b : Nat} (h1 : 1 ≤ a) (h2 : a ≤ b) (h3 : b ≤ 18) (h : lead r < a) : tkE r a b mx = 2 := by
  have hR : tkR (a : Int) (b : Int) = false := by unfold tkR; simp; omega
  have hk : tkk r (b : Int) = min (lead r) b := by unfold tkk; simp
  unfold tkE; rw [hR, hk, if_neg (by decide), if_pos (by omega)]

/-! what the scanner makes of it -/
theorem bd_at (l : List UInt8) (j : Nat) : l[sig l + j]? = (bd l)[j]? := by unfold bd; rw [List.getElem?_drop]
theorem bd_drop (l : List UInt8) (j : Nat) : l.drop (sig l + j) = (bd l).drop j := by unfold bd; rw [List.drop_drop]
theorem sig_len (l : List UInt8) : sig l ≤ l.length := by
  unfold sig; split
  · next h => cases l with
              | nil => cases h
              | cons a r => simp
  · omega
theorem bd_len (l : List UInt8) : (bd l).length = l.length - sig l := by unfold bd; simp
theorem parse_is14 (l : List UInt8) {k2 k3 : Nat} {e1 e2 e3 : Int} (h1 : e1 = if wb l then 2 else 0) (h2 : e2 = wmE l 58 (sig l + yl l) e1) (g2 : k2 = wmK l 58 (sig l + yl l) e1)
    (h3 : e3 = fgE (rs l k2 e2) e2 6 6) (g3 : k3 = fgK k2 (rs l k2 e2) e2 6 6) :
    (¬ gGood l ∧ enE l k3 e3 = 2) ∨ (gGood l ∧ enE l k3 e3 = 0 ∧ fgN (rs l k2 e2) e2 6 6 = gS l) := by
  have hl := bd_len l
  have hs := sig_len l
  by_cases c1 : wb l
  · rw [if_pos c1] at h1
    subst h1
    rw [wm_bad (by decide)] at h2; subst h2
    rw [fg_bad (by decide)] at h3; subst h3
    exact .inl ⟨fun G => G.1 c1, en_bad (by decide)⟩
  · rw [if_neg c1] at h1
    subst h1
    by_cases c2 : (bd l)[yl l]? = some 58
    · have m2 := wm_yes (l := l) (b := 58) (k := sig l + yl l) (by rw [bd_at]; exact c2)
      rw [m2.1] at h2; rw [m2.2] at g2; subst h2; subst g2
      have hr : rs l (sig l + yl l + 1) 0 = (bd l).drop (yl l + 1) := by rw [rs_zero, ← bd_drop]; congr 1
      rw [hr] at h3 g3 ⊢
      by_cases c3 : 6 ≤ lead ((bd l).drop (yl l + 1))
      · have t := tk_yes18 (r := (bd l).drop (yl l + 1)) (a := 6) (b := 6) (by omega) (by omega) (by omega) c3
        rw [show min (lead ((bd l).drop (yl l + 1))) 6 = 6 by omega] at t
        have y1 : fgE ((bd l).drop (yl l + 1)) 0 6 6 = 0 := by unfold fgE; rw [if_pos rfl]; exact t.1
        have y2 : fgK (sig l + yl l + 1) ((bd l).drop (yl l + 1)) 0 6 6 = sig l + (yl l + 7) := by
          unfold fgK; rw [if_pos rfl]; show _ + tkK _ (6 : Nat) (6 : Nat) mx = _; rw [t.2.2]; omega
        have y3 : fgN ((bd l).drop (yl l + 1)) 0 6 6 = ((dv (((bd l).drop (yl l + 1)).take 6) : Nat) : Int) := by
          unfold fgN; rw [if_pos rfl]; show ((tkN _ (6 : Nat) (6 : Nat) mx : Nat) : Int) = _; rw [t.2.1]
        rw [y1] at h3; rw [y2] at g3; subst h3; subst g3
        have hlen : yl l + 7 ≤ (bd l).length := by
          have := lead_le ((bd l).drop (yl l + 1))
          rw [List.length_drop] at this
          omega
        by_cases c4 : sig l + (yl l + 7) < l.length
        · exact .inl ⟨fun G => by have := G.2.1; omega, by unfold enE; rw [if_pos ⟨rfl, c4⟩]⟩
        · refine .inr ⟨⟨c1, by omega, c2, c3⟩, by unfold enE; rw [if_neg (fun c => c4 c.2)], ?_⟩
          rw [y3]; unfold gS
          rw [List.take_of_length_le (by rw [List.length_drop]; omega)]
      · have z := tk_not18 (r := (bd l).drop (yl l + 1)) (a := 6) (b := 6) (by omega) (by omega) (by omega) (by omega)
        have z1 : fgE ((bd l).drop (yl l + 1)) 0 6 6 = 2 := by unfold fgE; rw [if_pos rfl]; exact z
        rw [z1] at h3; subst h3
        exact .inl ⟨fun G => c3 G.2.2.2, en_bad (by decide)⟩
    · rw [wm_no (by rw [bd_at]; exact c2)] at h2; subst h2
      rw [fg_bad (by decide)] at h3; subst h3
      exact .inl ⟨fun G => c2 G.2.2.1, en_bad (by decide)⟩

/-! a week's text as a number -/
theorem notf14 {l : List UInt8} {c : UInt8} (hd : ∀ b ∈ l, isd b = true) (hc : isd c = false) : Lib.hasPrefix l [c] = false := by
  cases l with
  | nil => rfl
  | cons b r =>
    simp only [Lib.hasPrefix, List.isPrefixOf, Bool.and_true]
    apply beq_false_of_ne
    rintro rfl
    rw [hd c (by simp)] at hc; cases hc
theorem wh20 {D : List UInt8} {lim : Nat} (hd : ∀ b ∈ D, isd b = true) (h1 : 1 ≤ D.length) (h0 : 20 < D.length → D.head? ≠ some 48) (hl : lim ≤ 9223372036854775808) :
    whE D 1 20 lim = (if lim < dv D then 5 else 0) ∧ whN D 1 20 lim = if lim < dv D then 0 else dv D := by
  have hlead := lead_all hd
  have hR : tkR 1 20 = false := by decide
  have hk : tkk D 20 = min D.length 20 := by unfold tkk; rw [hlead]; rfl
  by_cases c : 20 < D.length
  · have hbig : 10000000000000000000 ≤ dv (D.take 20) := by
      cases D with
      | nil => simp at c
      | cons a r =>
        have ha := isd_bd (hd a (by simp))
        have h48 : a.toNat ≠ 48 := by
          intro e
          apply h0 c
          have : a = 48 := UInt8.toNat.inj e
          rw [this]; rfl
        have hlen : (r.take 19).length = 19 := by rw [List.length_take]; simp at c; omega
        rw [show (a :: r).take 20 = a :: r.take 19 from rfl, dv_cons, hlen]
        have h19 : (10 : Nat) ^ 19 = 10000000000000000000 := by decide
        rw [h19]
        generalize dv (r.take 19) = z
        omega
    have hle := dv_take_le D 20
    have hE : tkE D 1 20 lim = 5 := by
      unfold tkE; rw [hR, hk, if_neg (by decide), if_neg (by omega), show min D.length 20 = 20 by omega]
      unfold vlE; rw [if_pos (by omega)]
    have e : whE D 1 20 lim = 5 := by unfold whE; rw [if_neg (by rw [hE]; decide), hE]
    rw [if_pos (by omega), if_pos (by omega)]
    exact ⟨e, by unfold whN; rw [if_neg (by rw [e]; decide)]⟩
  · have hm : min D.length 20 = D.length := by omega
    have ht : D.take (tkk D 20) = D := by rw [hk, hm]; exact List.take_of_length_le (Nat.le_refl _)
    by_cases d : lim < dv D
    · have hE : tkE D 1 20 lim = 5 := by
        unfold tkE; rw [hR, if_neg (by decide), if_neg (by omega), ht]
        unfold vlE; rw [if_pos d]
      have e : whE D 1 20 lim = 5 := by unfold whE; rw [if_neg (by rw [hE]; decide), hE]
      rw [if_pos d, if_pos d]
      exact ⟨e, by unfold whN; rw [if_neg (by rw [e]; decide)]⟩
    · have hE : tkE D 1 20 lim = 0 := by
        unfold tkE; rw [hR, if_neg (by decide), if_neg (by omega), ht]
        unfold vlE; rw [if_neg d]
      have hN : tkN D 1 20 lim = dv D := by unfold tkN; rw [if_pos hE, ht]
      have hK : tkK D 1 20 lim = D.length := by unfold tkK; rw [if_pos hE, hk, hm]
      have e : whE D 1 20 lim = 0 := by unfold whE; rw [if_pos hE, hK, if_neg (by omega)]
      rw [if_neg d, if_neg d]
      exact ⟨e, by unfold whN; rw [if_pos e, hN]⟩
theorem wtx_is (l : List UInt8) : wtx l = if sig l = 1 then 45 :: (bd l).take (yl l) else (bd l).take (yl l) := by
  unfold wtx bd sig
  by_cases c : l.head? = some 45
  · rw [if_pos c, if_pos rfl]
    cases l with
    | nil => cases c
    | cons a r =>
      injection c with c
      subst c
      rw [Nat.add_comm, List.take_succ_cons]; rfl
  · rw [if_neg c, if_neg (by decide), Nat.zero_add, List.drop_zero]
theorem sg_week {l : List UInt8} (h : ¬ wb l) : sgE (wtx l) 20 = bad (gY l) ∧ sgN (wtx l) 20 = sm (gY l) := by
  have hd := lead_mem (l := bd l) (k := yl l) (Nat.le_refl _)
  have hlen : ((bd l).take (yl l)).length = yl l := by rw [List.length_take]; have := lead_le (bd l); unfold yl; omega
  have h4 : 4 ≤ yl l := by
    rcases Nat.lt_or_ge (yl l) 4 with c | c
    · exact absurd (.inl c) h
    · exact c
  have h0 : 20 < ((bd l).take (yl l)).length → ((bd l).take (yl l)).head? ≠ some 48 := by
    intro c e
    rw [hlen] at c
    apply h
    refine .inr (.inl ⟨by omega, ?_⟩)
    rw [← e, List.head?_take, if_neg (by omega)]
  rw [wtx_is]
  unfold gY
  have m1 := mx_is; have m2 := mxn_is
  generalize (bd l).take (yl l) = D at *
  by_cases c : sig l = 1
  · rw [if_pos c, if_pos c]
    have hp : neg1 (45 :: D) = true := by simp [neg1, Lib.hasPrefix, List.isPrefixOf]
    have ht : Lib.trimPrefix (45 :: D) [45] = D := by unfold Lib.trimPrefix; rw [show Lib.hasPrefix (45 :: D) [45] = true from hp]; rfl
    obtain ⟨w1, w2⟩ := wh20 (lim := mxn) hd (by omega) h0 (by decide)
    unfold sgE sgN
    rw [hp, ht, if_pos rfl, if_pos rfl, w1, w2]
    by_cases d : mxn < dv D
    · rw [if_pos d, if_pos d, bad_no (by unfold fits; omega), sm_no (by unfold fits; omega)]; exact ⟨rfl, rfl⟩
    · rw [if_neg d, if_neg d, bad_fit (by unfold fits; omega), sm_fit (by unfold fits; omega)]; exact ⟨rfl, rfl⟩
  · rw [if_neg c, if_neg c]
    have hp : neg1 D = false := notf14 hd rfl
    have ht : Lib.trimPrefix D [43] = D := by unfold Lib.trimPrefix; rw [notf14 (l := D) (c := 43) hd rfl]; rfl
    obtain ⟨w1, w2⟩ := wh20 (lim := mx) hd (by omega) h0 (by decide)
    unfold sgE sgN
    rw [hp, ht, if_neg (by decide), if_neg (by decide), w1, w2]
    by_cases d : mx < dv D
    · rw [if_pos d, if_pos d, bad_no (by unfold fits; omega), sm_no (by unfold fits; omega)]; exact ⟨rfl, rfl⟩
    · rw [if_neg d, if_neg d, bad_fit (by unfold fits; omega), sm_fit (by unfold fits; omega)]; exact ⟨rfl, rfl⟩

/-! what is put -/
end Go.Proofs.Ytjbbnlcghnjlfaa
