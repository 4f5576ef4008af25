/- The text of a day as a list of bytes: its form, what a scanner makes of it, what is put. No walk stands here. -/
import Derived.Test.YtjbbnlcghnjlfaaDoorWeekM
import Derived.Test.YtjbbnlcghnjlfaaDoorFigC
import Derived.Test.YtjbbnlcghnjlfaaDoorScanE
namespace Go.Proofs.YtjbbnlcghnjlfaaDoor
open Go.RowKit
set_option linter.unusedVariables false

/-- A text behind its sign. -/
def sig (l : List UInt8) : Nat := if l.head? = some 45 then 1 else 0
def bd (l : List UInt8) : List UInt8 := l.drop (sig l)
def yl (l : List UInt8) : Nat := lead (bd l)
/-- Has a text the form of a day? -/
def Good (l : List UInt8) : Prop :=
  4 ≤ yl l ∧ yl l ≤ 5 ∧ (bd l).length = yl l + 6 ∧ (bd l)[yl l]? = some 45 ∧ (bd l)[yl l + 1]? = some 87 ∧ 2 ≤ lead ((bd l).drop (yl l + 2)) ∧
    (bd l)[yl l + 4]? = some 45 ∧ 1 ≤ lead ((bd l).drop (yl l + 5)) ∧ ¬ (yl l = 5 ∧ dv ((bd l).take (yl l)) ≤ 9999) ∧ ¬ (sig l = 1 ∧ dv ((bd l).take (yl l)) = 0)
instance (l : List UInt8) : Decidable (Good l) := by unfold Good; infer_instance
/-- Its year, week, weekday. -/
def gY (l : List UInt8) : Int := if sig l = 1 then -((dv ((bd l).take (yl l)) : Nat) : Int) else ((dv ((bd l).take (yl l)) : Nat) : Int)
def gW (l : List UInt8) : Int := ((dv (((bd l).drop (yl l + 2)).take 2) : Nat) : Int)
def gD (l : List UInt8) : Int := ((dv (((bd l).drop (yl l + 5)).take 1) : Nat) : Int)
/-- What Parse answers. -/
def paE (l : List UInt8) : Int := if Good l then wkE (gY l) (gW l) (gD l) else 2
def paN (l : List UInt8) : Int := if Good l then wkN (gY l) (gW l) (gD l) else 0

/-! ### acts of a scanner -/
/-- A byte that must stand: the place, the error behind it. -/
def wmK (l : List UInt8) (b : UInt8) (k : Nat) (e : Int) : Nat := if (rs l k e).head? = some b then k + 1 else k
def wmE (l : List UInt8) (b : UInt8) (k : Nat) (e : Int) : Int := if (rs l k e).head? = some b then e else flE e 2
/-- The year. -/
def yF (l : List UInt8) : Nat := fgK (sig l) (rs l (sig l) 0) 0 4 5
def yN (l : List UInt8) : Int := fgN (rs l (sig l) 0) 0 4 5
def yX (l : List UInt8) : Int := fgE (rs l (sig l) 0) 0 4 5
def yC (l : List UInt8) : Prop := (yF l = sig l + 5 ∧ yN l ≤ 9999) ∨ (sig l = 1 ∧ yN l = 0)
instance (l : List UInt8) : Decidable (yC l) := by unfold yC; infer_instance
def yE (l : List UInt8) : Int := if yC l then flE (yX l) 2 else yX l
def yV (l : List UInt8) : Int := if sig l = 1 then -(yN l) else yN l

theorem wm_bad {l : List UInt8} {b : UInt8} {k : Nat} {e : Int} (h : e ≠ 0) : wmE l b k e = e := by
  unfold wmE; rw [rs_bad _ _ h, fl_bad _ h]; split <;> rfl
theorem wm_yes {l : List UInt8} {b : UInt8} {k : Nat} (h : l[k]? = some b) : wmE l b k 0 = 0 ∧ wmK l b k 0 = k + 1 := by
  unfold wmE wmK; rw [rs_zero, List.head?_drop, if_pos h, if_pos h]; exact ⟨rfl, rfl⟩
theorem wm_no {l : List UInt8} {b : UInt8} {k : Nat} (h : ¬ l[k]? = some b) : wmE l b k 0 = 2 := by
  unfold wmE; rw [rs_zero, List.head?_drop, if_neg h]; rfl
theorem fg_bad {r : List UInt8} {e a b : Int} (h : e ≠ 0) : fgE r e a b = e := by unfold fgE; rw [if_neg h]
theorem w_dv_small {r : List UInt8} {k : Nat} (h : k ≤ lead r) (h5 : k ≤ 5) : dv (r.take k) < 100000 := by
  have a := dv_lt (lead_mem h)
  have b : (r.take k).length ≤ 5 := by rw [List.length_take]; omega
  have c : 10 ^ (r.take k).length ≤ 10 ^ 5 := Nat.pow_le_pow_right (by decide) b
  omega
theorem tk_yes {r : List UInt8} {a b : Nat} (h1 : 1 ≤ a) (h2 : a ≤ b) (h3 : b ≤ 5) (h : a ≤ lead r) :
    tkE r a b mx = 0 ∧ tkN r a b mx = dv (r.take (min (lead r) b)) ∧ tkK r a b mx = min (lead r) b := by
  have hR : tkR (a : Int) (b : Int) = false := by unfold tkR; simp; omega
  have hk : tkk r (b : Int) = min (lead r) b := by unfold tkk; simp
  have hd := w_dv_small (r := r) (k := min (lead r) b) (by omega) (by omega)
  have e : tkE r a b mx = 0 := by
    unfold tkE; rw [hR, hk, if_neg (by decide), if_neg (by omega)]
    unfold vlE; rw [if_neg (by have := mx_is; omega)]
  refine ⟨e, ?_, ?_⟩
  · unfold tkN; rw [if_pos e, hk]
  · unfold tkK; rw [if_pos e, hk]
theorem tk_not {r : List UInt8} {a b : Nat} (h1 : 1 ≤ a) (h2 : a ≤ b) (h3 : b ≤ 5) (h : lead r < a) : tkE r a b mx = 2 := by
  have hR : tkR (a : Int) (b : Int) = false := by unfold tkR; simp; omega
  have hk : tkk r (b : Int) = min (lead r) b := by unfold tkk; simp
  unfold tkE; rw [hR, hk, if_neg (by decide), if_pos (by omega)]
theorem en_bad {l : List UInt8} {k : Nat} {e : Int} (h : e ≠ 0) : enE l k e = e := by unfold enE; rw [if_neg (fun c => h c.1)]

/-- All states behind an error. -/
theorem all_bad {l : List UInt8} {k1 k2 k3 k4 k5 k6 : Nat} {e1 e2 e3 e4 e5 e6 : Int} (he : e1 = 2) (h2 : e2 = wmE l 45 k1 e1) (h3 : e3 = wmE l 87 k2 e2)
    (h4 : e4 = fgE (rs l k3 e3) e3 2 2) (h5 : e5 = wmE l 45 k4 e4) (h6 : e6 = fgE (rs l k5 e5) e5 1 1) : enE l k6 e6 = 2 := by
  subst he
  rw [wm_bad (by decide)] at h2; subst h2
  rw [wm_bad (by decide)] at h3; subst h3
  rw [fg_bad (by decide)] at h4; subst h4
  rw [wm_bad (by decide)] at h5; subst h5
  rw [fg_bad (by decide)] at h6; subst h6
  exact en_bad (by decide)

theorem parse_is (l : List UInt8) {k2 k3 k4 k5 k6 : Nat} {e2 e3 e4 e5 e6 : Int} (h2 : e2 = wmE l 45 (yF l) (yE l)) (g2 : k2 = wmK l 45 (yF l) (yE l))
    (h3 : e3 = wmE l 87 k2 e2) (g3 : k3 = wmK l 87 k2 e2) (h4 : e4 = fgE (rs l k3 e3) e3 2 2) (g4 : k4 = fgK k3 (rs l k3 e3) e3 2 2)
    (h5 : e5 = wmE l 45 k4 e4) (g5 : k5 = wmK l 45 k4 e4) (h6 : e6 = fgE (rs l k5 e5) e5 1 1) (g6 : k6 = fgK k5 (rs l k5 e5) e5 1 1) :
    (¬ Good l ∧ enE l k6 e6 = 2) ∨ (Good l ∧ enE l k6 e6 = 0 ∧ yV l = gY l ∧ fgN (rs l k3 e3) e3 2 2 = gW l ∧ fgN (rs l k5 e5) e5 1 1 = gD l) := by
  have hr : rs l (sig l) 0 = bd l := rs_zero _ _
  have hd : ∀ j, l.drop (sig l + j) = (bd l).drop j := fun j => by unfold bd; rw [List.drop_drop]
  have ha : ∀ j, l[sig l + j]? = (bd l)[j]? := fun j => by unfold bd; rw [List.getElem?_drop]
  have hl : (bd l).length = l.length - sig l := by unfold bd; simp
  have hs : sig l ≤ l.length := by
    unfold sig; split
    · next h => cases l with
                | nil => cases h
                | cons a r => simp
    · omega
  by_cases c1 : 4 ≤ yl l
  · have t := tk_yes (r := bd l) (a := 4) (b := 5) (by omega) (by omega) (by omega) c1
    have x1 : yX l = 0 := by unfold yX; rw [hr]; unfold fgE; rw [if_pos rfl]; exact t.1
    have x2 : yF l = sig l + min (yl l) 5 := by unfold yF; rw [hr]; unfold fgK; rw [if_pos rfl]; show sig l + tkK (bd l) (4 : Nat) (5 : Nat) mx = _; rw [t.2.2]; rfl
    have x3 : yN l = ((dv ((bd l).take (min (yl l) 5)) : Nat) : Int) := by unfold yN; rw [hr]; unfold fgN; rw [if_pos rfl]; show ((tkN (bd l) (4 : Nat) (5 : Nat) mx : Nat) : Int) = _; rw [t.2.1]; rfl
    by_cases c2 : yC l
    · have x4 : yE l = 2 := by unfold yE; rw [if_pos c2, x1]; rfl
      refine Or.inl ⟨fun G => ?_, all_bad x4 h2 h3 h4 h5 h6⟩
      obtain ⟨_, q2, _, _, _, _, _, _, q9, q10⟩ := G
      rw [show min (yl l) 5 = yl l by omega] at x2 x3
      unfold yC at c2
      rw [x2, x3] at c2
      omega
    · have x4 : yE l = 0 := by unfold yE; rw [if_neg c2, x1]
      rw [x4, x2] at h2 g2
      by_cases c3 : (bd l)[min (yl l) 5]? = some 45
      · have hk : yl l ≤ 5 := by
          rcases Nat.lt_or_ge 5 (yl l) with c | c
          · exfalso
            rw [show min (yl l) 5 = 5 by omega] at c3
            have hlen : 5 < (bd l).length := Nat.lt_of_lt_of_le c (lead_le _)
            have := lead_yes hlen c
            rw [List.getElem?_eq_getElem hlen] at c3
            injection c3 with c3
            rw [c3] at this
            cases this
          · exact c
        rw [show min (yl l) 5 = yl l by omega] at *
        have m2 := wm_yes (l := l) (b := 45) (k := sig l + yl l) (by rw [ha]; exact c3)
        rw [m2.1] at h2; rw [m2.2] at g2; subst h2; subst g2
        by_cases c4 : (bd l)[yl l + 1]? = some 87
        · have m3 := wm_yes (l := l) (b := 87) (k := sig l + yl l + 1) (by rw [Nat.add_assoc, ha]; exact c4)
          rw [m3.1] at h3; rw [m3.2] at g3; subst h3; subst g3
          have hr3 : rs l (sig l + yl l + 1 + 1) 0 = (bd l).drop (yl l + 2) := by rw [rs_zero, ← hd]; congr 1
          rw [hr3] at h4 g4 ⊢
          by_cases c5 : 2 ≤ lead ((bd l).drop (yl l + 2))
          · have t4 := tk_yes (r := (bd l).drop (yl l + 2)) (a := 2) (b := 2) (by omega) (by omega) (by omega) c5
            rw [show min (lead ((bd l).drop (yl l + 2))) 2 = 2 by omega] at t4
            have y1 : fgE ((bd l).drop (yl l + 2)) 0 2 2 = 0 := by unfold fgE; rw [if_pos rfl]; exact t4.1
            have y2 : fgK (sig l + yl l + 1 + 1) ((bd l).drop (yl l + 2)) 0 2 2 = sig l + (yl l + 4) := by
              unfold fgK; rw [if_pos rfl]; show _ + tkK _ (2 : Nat) (2 : Nat) mx = _; rw [t4.2.2]; omega
            have y3 : fgN ((bd l).drop (yl l + 2)) 0 2 2 = gW l := by
              unfold fgN; rw [if_pos rfl]; show ((tkN _ (2 : Nat) (2 : Nat) mx : Nat) : Int) = _; rw [t4.2.1]; rfl
            rw [y1] at h4; rw [y2] at g4; subst h4; subst g4
            by_cases c6 : (bd l)[yl l + 4]? = some 45
            · have m5 := wm_yes (l := l) (b := 45) (k := sig l + (yl l + 4)) (by rw [ha]; exact c6)
              rw [m5.1] at h5; rw [m5.2] at g5; subst h5; subst g5
              have hr5 : rs l (sig l + (yl l + 4) + 1) 0 = (bd l).drop (yl l + 5) := by rw [rs_zero, ← hd]; congr 1
              rw [hr5] at h6 g6 ⊢
              by_cases c7 : 1 ≤ lead ((bd l).drop (yl l + 5))
              · have t6 := tk_yes (r := (bd l).drop (yl l + 5)) (a := 1) (b := 1) (by omega) (by omega) (by omega) c7
                rw [show min (lead ((bd l).drop (yl l + 5))) 1 = 1 by omega] at t6
                have z1 : fgE ((bd l).drop (yl l + 5)) 0 1 1 = 0 := by unfold fgE; rw [if_pos rfl]; exact t6.1
                have z2 : fgK (sig l + (yl l + 4) + 1) ((bd l).drop (yl l + 5)) 0 1 1 = sig l + (yl l + 6) := by
                  unfold fgK; rw [if_pos rfl]; show _ + tkK _ (1 : Nat) (1 : Nat) mx = _; rw [t6.2.2]; omega
                have z3 : fgN ((bd l).drop (yl l + 5)) 0 1 1 = gD l := by
                  unfold fgN; rw [if_pos rfl]; show ((tkN _ (1 : Nat) (1 : Nat) mx : Nat) : Int) = _; rw [t6.2.1]; rfl
                rw [z1] at h6; rw [z2] at g6; subst h6; subst g6
                have hlen : yl l + 6 ≤ (bd l).length := by
                  have := lead_le ((bd l).drop (yl l + 5))
                  rw [List.length_drop] at this
                  omega
                by_cases c8 : sig l + (yl l + 6) < l.length
                · refine Or.inl ⟨fun G => ?_, by unfold enE; rw [if_pos ⟨rfl, c8⟩]⟩
                  have := G.2.2.1
                  omega
                · refine Or.inr ⟨⟨c1, hk, by omega, c3, c4, c5, c6, c7, ?_, ?_⟩, by unfold enE; rw [if_neg (fun c => c8 c.2)], ?_, y3, z3⟩
                  · rintro ⟨p, q⟩
                    exact c2 (Or.inl ⟨by omega, by rw [x3]; omega⟩)
                  · rintro ⟨p, q⟩
                    exact c2 (Or.inr ⟨p, by rw [x3]; omega⟩)
                  · unfold yV gY; rw [x3]
              · have z := tk_not (r := (bd l).drop (yl l + 5)) (a := 1) (b := 1) (by omega) (by omega) (by omega) (by omega)
                have z1 : fgE ((bd l).drop (yl l + 5)) 0 1 1 = 2 := by unfold fgE; rw [if_pos rfl]; exact z
                rw [z1] at h6; subst h6
                exact Or.inl ⟨fun G => c7 G.2.2.2.2.2.2.2.1, en_bad (by decide)⟩
            · rw [wm_no (by rw [ha]; exact c6)] at h5; subst h5
              rw [fg_bad (by decide)] at h6; subst h6
              exact Or.inl ⟨fun G => c6 G.2.2.2.2.2.2.1, en_bad (by decide)⟩
          · have z := tk_not (r := (bd l).drop (yl l + 2)) (a := 2) (b := 2) (by omega) (by omega) (by omega) (by omega)
            have z1 : fgE ((bd l).drop (yl l + 2)) 0 2 2 = 2 := by unfold fgE; rw [if_pos rfl]; exact z
            rw [z1] at h4; subst h4
            rw [wm_bad (by decide)] at h5; subst h5
            rw [fg_bad (by decide)] at h6; subst h6
            exact Or.inl ⟨fun G => c5 G.2.2.2.2.2.1, en_bad (by decide)⟩
        · rw [wm_no (by rw [Nat.add_assoc, ha]; exact c4)] at h3; subst h3
          rw [fg_bad (by decide)] at h4; subst h4
          rw [wm_bad (by decide)] at h5; subst h5
          rw [fg_bad (by decide)] at h6; subst h6
          exact Or.inl ⟨fun G => c4 G.2.2.2.2.1, en_bad (by decide)⟩
      · rw [wm_no (by rw [ha]; exact c3)] at h2; subst h2
        rw [wm_bad (by decide)] at h3; subst h3
        rw [fg_bad (by decide)] at h4; subst h4
        rw [wm_bad (by decide)] at h5; subst h5
        rw [fg_bad (by decide)] at h6; subst h6
        refine Or.inl ⟨fun G => ?_, en_bad (by decide)⟩
        have q2 := G.2.1; have q4 := G.2.2.2.1
        rw [show min (yl l) 5 = yl l by omega] at c3
        exact c3 q4
  · have z := tk_not (r := bd l) (a := 4) (b := 5) (by omega) (by omega) (by omega) (by unfold yl at c1; omega)
    have x1 : yX l = 2 := by unfold yX; rw [hr]; unfold fgE; rw [if_pos rfl]; exact z
    have x4 : yE l = 2 := by unfold yE; rw [x1]; split <;> rfl
    exact Or.inl ⟨fun G => c1 G.1, all_bad x4 h2 h3 h4 h5 h6⟩

/-! ### what is put -/
def pwL (y w d : Int) : List UInt8 := ptL y 4 ++ [45, 87] ++ ptL w 2 ++ [45] ++ ptL d 1
theorem len4 {l : List UInt8} (h : l.length = 4) : ∃ a b c d, l = [a, b, c, d] := by
  match l, h with
  | [a, b, c, d], _ => exact ⟨a, b, c, d, rfl⟩
theorem len2 {l : List UInt8} (h : l.length = 2) : ∃ a b, l = [a, b] := by
  match l, h with
  | [a, b], _ => exact ⟨a, b, rfl⟩
theorem len1 {l : List UInt8} (h : l.length = 1) : ∃ a, l = [a] := by
  match l, h with
  | [a], _ => exact ⟨a, rfl⟩
theorem pads (u k : Nat) (hk : 1 ≤ k) (h : u < 10 ^ k) : (pad k (Lib.decDigits u)).length = k ∧ (∀ b ∈ pad k (Lib.decDigits u), isd b = true) ∧ dv (pad k (Lib.decDigits u)) = u := by
  refine ⟨?_, pad_isd (dec_isd u), by rw [dv_pad, dec_dv]⟩
  rw [pad_len]
  have := dec_len hk h
  omega
theorem isd_45 {b : UInt8} (h : isd b = true) : b ≠ 45 := by rintro rfl; cases h
theorem good_mk (neg : Bool) {Y W D : List UInt8} (hY : Y.length = 4) (hW : W.length = 2) (hD : D.length = 1) (iY : ∀ b ∈ Y, isd b = true) (iW : ∀ b ∈ W, isd b = true)
    (iD : ∀ b ∈ D, isd b = true) (h0 : neg = true → dv Y ≠ 0) {l : List UInt8} (hl : l = (if neg = true then [45] else []) ++ Y ++ [45, 87] ++ W ++ [45] ++ D) :
    Good l ∧ gY l = (if neg = true then -((dv Y : Nat) : Int) else ((dv Y : Nat) : Int)) ∧ gW l = (dv W : Nat) ∧ gD l = (dv D : Nat) := by
  obtain ⟨a, b, c, d, rfl⟩ := len4 hY
  obtain ⟨e, f, rfl⟩ := len2 hW
  obtain ⟨g, rfl⟩ := len1 hD
  have ia := iY a (by simp); have ib := iY b (by simp); have ic := iY c (by simp); have id := iY d (by simp)
  have ie := iW e (by simp); have jf := iW f (by simp); have ig := iD g (by simp)
  have na := isd_45 ia
  have i45 : isd 45 = false := rfl
  have hs : sig l = if neg = true then 1 else 0 := by
    cases neg
    · have : l.head? = some a := by rw [hl]; rfl
      unfold sig; rw [this, if_neg (by simpa using na)]; rfl
    · have : l.head? = some 45 := by rw [hl]; rfl
      unfold sig; rw [this, if_pos rfl]; rfl
  have hb : bd l = [a, b, c, d, 45, 87, e, f, 45, g] := by unfold bd; rw [hs, hl]; cases neg <;> rfl
  have hyl : yl l = 4 := by unfold yl; rw [hb]; simp [lead, ia, ib, ic, id, i45]
  refine ⟨?_, ?_, ?_, ?_⟩
  · unfold Good
    rw [hyl, hb]
    refine ⟨by decide, by decide, rfl, rfl, rfl, ?_, rfl, ?_, by simp, ?_⟩
    · simp [lead, ie, jf]
    · simp [lead, ig]
    · rintro ⟨p, q⟩
      rw [hs] at p
      cases neg
      · cases p
      · exact h0 rfl q
  · unfold gY; rw [hyl, hb, hs]; cases neg <;> rfl
  · unfold gW; rw [hyl, hb]; rfl
  · unfold gD; rw [hyl, hb]; rfl
theorem put_back {y w d : Int} (h1 : -9999 ≤ y) (h2 : y ≤ 9999) (w1 : 1 ≤ w) (w2 : w ≤ 99) (d1 : 1 ≤ d) (d2 : d ≤ 9) : Good (pwL y w d) ∧ gY (pwL y w d) = y ∧ gW (pwL y w d) = w ∧ gD (pwL y w d) = d ∧ (pwL y w d).length ≤ 11 := by
  obtain ⟨a1, a2, a3⟩ := pads y.natAbs 4 (by omega) (by omega)
  obtain ⟨b1, b2, b3⟩ := pads w.natAbs 2 (by omega) (by omega)
  obtain ⟨c1, c2, c3⟩ := pads d.natAbs 1 (by omega) (by omega)
  have ew : ptL w 2 = pad 2 (Lib.decDigits w.natAbs) := by unfold ptL; rw [if_neg (by omega), if_neg (by omega)]; rfl
  have ed : ptL d 1 = pad 1 (Lib.decDigits d.natAbs) := by unfold ptL; rw [if_neg (by omega), if_neg (by omega)]; rfl
  have ey : ptL y 4 = (if decide (y < 0) = true then [45] else []) ++ pad 4 (Lib.decDigits y.natAbs) := by
    unfold ptL; rw [if_neg (by omega)]
    by_cases c : y < 0
    · rw [if_pos c, if_pos (by simpa using c)]; rfl
    · rw [if_neg c, if_neg (by simpa using c)]; rfl
  obtain ⟨g1, g2, g3, g4⟩ := good_mk (decide (y < 0)) a1 b1 c1 a2 b2 c2 (by rw [a3]; intro c; have := of_decide_eq_true c; omega) (l := pwL y w d) (by unfold pwL; rw [ew, ed, ey])
  refine ⟨g1, ?_, by rw [g3, b3]; omega, by rw [g4, c3]; omega, ?_⟩
  · rw [g2, a3]
    by_cases c : y < 0
    · rw [if_pos (by simpa using c)]; omega
    · rw [if_neg (by simpa using c)]; omega
  · unfold pwL; rw [ew, ed, ey]
    simp only [List.length_append, a1, b1, c1]
    split <;> simp
theorem paE_put {n Y : Int} (h : Wk n Y) (hy : -9999 ≤ Y ∧ Y ≤ 9999) (h1 : -4371587 ≤ n) (h2 : n ≤ 2932896) :
    paE (pwL Y (wn n Y) (wd n)) = 0 ∧ paN (pwL Y (wn n Y) (wd n)) = n ∧ (pwL Y (wn n Y) (wd n)).length ≤ 11 := by
  have a := wn_bd h; have b := wk_bd Y; have c := wd_in n
  obtain ⟨g1, g2, g3, g4, g5⟩ := put_back (w := wn n Y) (d := wd n) hy.1 hy.2 (by omega) (by omega) (by omega) (by omega)
  obtain ⟨e1, e2⟩ := wk_wdE h hy h1 h2
  refine ⟨by unfold paE; rw [if_pos g1, g2, g3, g4, e1], by unfold paN; rw [if_pos g1, g2, g3, g4, e2], g5⟩

end Go.Proofs.YtjbbnlcghnjlfaaDoor
