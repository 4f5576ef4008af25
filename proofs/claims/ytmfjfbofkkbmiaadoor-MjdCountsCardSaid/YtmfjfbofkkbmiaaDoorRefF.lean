/- The document's figures: Signed, the walk. -/
import Derived.Test.YtmfjfbofkkbmiaaDoorRefE
namespace Go.Proofs.YtmfjfbofkkbmiaaDoor
open Go.RowKit
set_option linter.unusedVariables false

theorem wh_in {l : List UInt8} {a b : Int} {lim n : Nat} (hR : tkR a b = false) (hn : tkk l b = n) :
    (((n : Int) < a) → whE l a b lim = 2 ∧ whN l a b lim = 0) ∧
    (¬ ((n : Int) < a) → (vlE (l.take n) lim = 5 → whE l a b lim = 5 ∧ whN l a b lim = 0) ∧
      (vlE (l.take n) lim = 0 → (n < l.length → whE l a b lim = 2 ∧ whN l a b lim = 0) ∧ (¬ n < l.length → whE l a b lim = 0 ∧ whN l a b lim = vlN (l.take n) lim))) := by
  obtain ⟨t1, t2⟩ := tk_in (lim := lim) hR hn
  constructor
  · intro h
    obtain ⟨e1, e2, e3⟩ := t1 h
    have e : whE l a b lim = 2 := by unfold whE; rw [e1]; rfl
    exact ⟨e, by unfold whN; rw [e]; rfl⟩
  · intro h
    obtain ⟨e1, e2, e3⟩ := t2 h
    constructor
    · intro v
      rw [v] at e1
      have e : whE l a b lim = 5 := by unfold whE; rw [e1]; rfl
      exact ⟨e, by unfold whN; rw [e]; rfl⟩
    · intro v
      rw [v] at e1
      rw [v, if_pos rfl] at e3
      constructor
      · intro hlt
        have e : whE l a b lim = 2 := by unfold whE; rw [e1, e3, if_pos rfl, if_pos hlt]
        exact ⟨e, by unfold whN; rw [e]; rfl⟩
      · intro hlt
        have e : whE l a b lim = 0 := by unfold whE; rw [e1, e3, if_pos rfl, if_neg hlt]
        exact ⟨e, by unfold whN; rw [e, if_pos rfl, e2]⟩

/-- The cells of a new block of two, behind what leaves all that was there. -/
theorem new_cells {w1 w2 : World} {x y : Value} {T : TypeId} (h : Below (w1.alloc (.cells #[x, y] T)).heap.size (w1.alloc (.cells #[x, y] T)) w2) : w2.heap[w1.heap.size]? = some (.cells #[x, y] T (0, 0)) := by
  rw [h.block _ (by simp)]
  exact heap_alloc_new w1 _
theorem after_new {w w1 w3 : World} {o : Obj} (h1 : Below w.heap.size w w1) (h3 : Below (w1.alloc o).heap.size (w1.alloc o) w3) : Below w.heap.size w w3 :=
  h1.trans (((((Below.refl _ w1).alloc (Nat.le_refl _) o)).trans (h3.mono (by simp))).mono h1.size)
theorem after_set {w w1 w2 w3 : World} {x y : Value} (h2 : Below w.heap.size w w2) (h1 : Below w.heap.size w w1)
    (h3 : Below ((w2.setCell ⟨w1.heap.size, 0, none⟩ x).setCell ⟨w1.heap.size, 1, none⟩ y).heap.size ((w2.setCell ⟨w1.heap.size, 0, none⟩ x).setCell ⟨w1.heap.size, 1, none⟩ y) w3) : Below w.heap.size w w3 := by
  have h4 := (h2.setCell (p := ⟨w1.heap.size, 0, none⟩) h1.size x).setCell (p := ⟨w1.heap.size, 1, none⟩) h1.size y
  exact h4.trans (h3.mono h4.size)
set_option maxRecDepth 100000 in
set_option maxHeartbeats 6400000 in
theorem rsigned_any (s : ByteArray) (m : Int) (w : World) (hs : s.size ≤ maxLen) (hm : fits m) :
    Calls Tryd.prog 31 #[.string s, .int .i64 m] w fun e w' =>
      e = .returned (.tuple #[.int .i64 (sgN s.data.toList m), .int .i64 (sgE s.data.toList m)]) ∧ Below w.heap.size w w' := by
  obtain ⟨s1, s2⟩ := sg_is s.data.toList m
  rw [s1, s2]; clear s1 s2
  have hfirst := sg_first s
  obtain ⟨g, hg⟩ : ∃ g, g = neg1 s.data.toList := ⟨_, rfl⟩
  obtain ⟨l, hl⟩ : ∃ l, l = rest1 s.data.toList := ⟨_, rfl⟩
  rw [← hg, ← hl] at hfirst ⊢
  have hlen : l.length ≤ s.size := by
    rw [hl]; unfold rest1
    have e : s.data.toList.length = s.size := by simp
    have h1 := Lib.trimPrefix_le s.data.toList [45]
    have h2 := Lib.trimPrefix_le s.data.toList [43]
    split <;> omega
  clear hg hl
  by_cases hr : m < 1 ∨ 20 < m
  · have hR : tkR 1 m = true := by unfold tkR; simp; omega
    have e1 : tkE l 1 m (lm g) = 1 := by unfold tkE; rw [if_pos hR]
    have e2 : whE l 1 m (lm g) = 1 := by unfold whE; rw [e1]; rfl
    have e3 : whN l 1 m (lm g) = 0 := by unfold whN; rw [e2]; rfl
    rw [e2, e3, show sg g 0 = 0 by cases g <;> rfl]
    have hr' : m < 1 ∨ (¬ m < 1 ∧ 20 < m) := by omega
    clear e1 e2 e3 hR hr hfirst hlen hs hm
    rcases hr' with h1 | ⟨h1, h2⟩
    all_goals
      go_enter Tryd.func31, Tryd.ntmps31
      go_wp2
      go_ret2
      exact ⟨rfl, Below.refl _ _⟩
  · have h1 : 1 ≤ m := by omega
    have h2 : m ≤ 20 := by omega
    obtain ⟨M, rfl⟩ := Int.eq_ofNat_of_zero_le (show 0 ≤ m by omega)
    have hR : tkR 1 M = false := by unfold tkR; simp; omega
    obtain ⟨n, hn⟩ : ∃ n : Nat, n = tkk l M := ⟨_, rfl⟩
    obtain ⟨t1, t2⟩ := wh_in (lim := lm g) hR hn.symm
    have hk : n = min (lead l) M := by rw [hn]; unfold tkk; rfl
    have hle := lead_le l
    have hM := fun w => Lib.hid (many_any ⟨l.toArray⟩ w (by rw [Lib.size_mk]; omega))
    have HB := fun w => Lib.hid (some_first ⟨l.toArray⟩ n (by rw [Lib.size_mk]; omega) (by omega) (by show n ≤ lead l; omega) w)
    simp only at hM HB
    obtain ⟨y1, y2⟩ := small_sg g (l.take n)
    have hvl := vl_E (l.take n) (lm g)
    have hsize : (⟨l.toArray⟩ : ByteArray).size = l.length := Lib.size_mk l
    obtain ⟨L, hL⟩ : ∃ L, L = lead l := ⟨_, rfl⟩
    rw [← hL] at hM hk hle
    generalize whN l 1 M (lm g) = N at *
    generalize whE l 1 M (lm g) = E at *
    generalize vlN (l.take n) (lm g) = VN at *
    generalize vlE (l.take n) (lm g) = VE at *
    generalize dv (l.take n) = D at *
    have HY1 := Lib.hid y1; have HY2 := Lib.hid y2; have HV := Lib.hid hvl; have T1 := Lib.hid t1; have T2 := Lib.hid t2
    have hns : n ≤ l.length := by omega
    have HK := Lib.hid hk
    have HF := Lib.hid hfirst
    clear hn hR hr hm hL y1 y2 hvl t1 t2 hk hfirst
    have hl1 : l.length ≤ 9223372036854775807 := by unfold maxLen at hs; omega
    obtain ⟨X, hX⟩ : ∃ X : ByteArray, X = ⟨l.toArray⟩ := ⟨_, rfl⟩
    rw [← hX] at hM HB hsize
    have hxs : X.size ≤ 9223372036854775807 := by omega
    have hnx : n ≤ X.size := by omega
    have HX := Lib.hid hX
    have HS := Lib.hid hsize
    clear hX hsize
    unfold maxLen at hs
    rcases HF.out with ⟨hz, rfl, hl⟩ | ⟨hpos, ⟨k1, rfl, hl⟩ | ⟨k1, k2, rfl, hl⟩ | ⟨k1, k2, rfl, hl⟩⟩
    · have hlz : l.length = 0 := by rw [hl]; rfl
      obtain rfl : X = s := by
        have e : s.data.toList = [] := List.eq_nil_of_length_eq_zero (by simpa using hz)
        rw [HX.out, hl, ← e]
      have hL0 : L = 0 := by omega
      have hn0 : n = 0 := by omega
      subst hL0; subst hn0
      obtain ⟨rfl, rfl⟩ := T1.out (by decide)
      rw [show sg false 0 = 0 from rfl]
      have hz' : ¬ 0 < X.size := by omega
      have hz2 : ¬ ((X.size : Int) > 0) := by omega
      clear T1 T2 HY1 HY2 HV HB hz hlz hl HK HF HX HS hle hlen hns
      go_enter Tryd.func31, Tryd.ntmps31
      go_wp2_with (first
        | (go_at_call 21; refine (hM _).out.mono ?_; rintro e w' ⟨rfl, rfl⟩))
      go_ret2
      exact ⟨rfl, Below.refl _ _⟩
    · have hex : s.extract 1 s.size = X := by rw [HX.out, hl, Lib.extract_from]
      have hps : (s.size : Int) > 0 := by omega
      clear HF hl HX hlen
      have hk := HK.out
      rcases (by omega : (M < L ∧ n = M) ∨ (¬ M < L ∧ n = L)) with ⟨g1, rfl⟩ | ⟨g1, rfl⟩
      · clear hk HK
        have h4 : ¬ ((n : Int) < 1) := by omega
        obtain ⟨p1, p2⟩ := T2.out h4
        rcases HV.out with ⟨rfl, rfl, _⟩ | ⟨rfl, _, _⟩
        · obtain ⟨rfl, rfl⟩ := p1 rfl
          have Y1 : RowKit.Hid (bad (-(D : Int)) = 5) := HY1.out
          have Y2 : RowKit.Hid (sm (-(D : Int)) = 0) := HY2.out
          rw [show sg true 0 = 0 from rfl]
          clear T1 T2 HY1 HY2 HV p1 p2
          go_enter Tryd.func31, Tryd.ntmps31
          go_wp2_with (first
            | (go_at_call 21; refine (hM _).out.mono ?_; rintro e w' ⟨rfl, rfl⟩)
            | (go_at_call 44; refine (HB _).out.mono ?_; rintro e w1 ⟨v, rfl, b1, hb1⟩; obtain ⟨b, A, nn, c, rfl⟩ := b1.opened; have V1 := Lib.hid b1; have B1 := Lib.hid hb1; clear b1 hb1)
            | (go_at_call 45; refine (minus_big _ _ 130 _ (V1.out.below ?_) (by decide)).mono ?_; exact (Below.refl _ _).alloc (Nat.le_refl _) _; rintro e w2 ⟨u, rfl, b2, hb2⟩; obtain ⟨b', A', nn', c', rfl⟩ := b2.opened; have V2 := Lib.hid b2; have G2 := Lib.hid (new_cells hb2); have B2 := Lib.hid (B1.out.trans (Below.trans ((Below.refl _ _).alloc (Nat.le_refl _) _) (hb2.mono (by simp)) |>.mono B1.out.size)); have hm1 := whole_cell G2.out 0; have hm2 := whole_cell G2.out 1; have hf1 := whole_free G2.out 0; have hf2 := whole_free G2.out 1; clear b2 hb2)
            | (go_at_call 46; refine (small_any _ _ 130 _ (V2.out.stored2 hm1 hm2 _ _) (by decide)).mono ?_; rw [Y1.out, Y2.out]; rintro e w3 ⟨rfl, hb3⟩; have B3 := Lib.hid (after_set B2.out B1.out hb3); clear hb3))
          go_ret2
          exact ⟨rfl, B3.out⟩
        · obtain ⟨p3, p4⟩ := p2 rfl
          by_cases h5 : n < l.length
          · obtain ⟨rfl, rfl⟩ := p3 h5
            have Y1 : RowKit.Hid (bad (-(D : Int)) = 0) := HY1.out
            have Y2 : RowKit.Hid (sm (-(D : Int)) = sg true VN) := HY2.out
            have h6 : n < X.size := by rw [HS.out]; exact h5
            rw [show sg true 0 = 0 from rfl]
            clear T1 T2 HY1 HY2 HV p1 p2 p3 p4 h5
            generalize sg true VN = Z at *
            go_enter Tryd.func31, Tryd.ntmps31
            go_wp2_with (first
              | (go_at_call 21; refine (hM _).out.mono ?_; rintro e w' ⟨rfl, rfl⟩)
              | (go_at_call 44; refine (HB _).out.mono ?_; rintro e w1 ⟨v, rfl, b1, hb1⟩; obtain ⟨b, A, nn, c, rfl⟩ := b1.opened; have V1 := Lib.hid b1; have B1 := Lib.hid hb1; clear b1 hb1)
              | (go_at_call 45; refine (minus_big _ _ 130 _ (V1.out.below ?_) (by decide)).mono ?_; exact (Below.refl _ _).alloc (Nat.le_refl _) _; rintro e w2 ⟨u, rfl, b2, hb2⟩; obtain ⟨b', A', nn', c', rfl⟩ := b2.opened; have V2 := Lib.hid b2; have G2 := Lib.hid (new_cells hb2); have B2 := Lib.hid (B1.out.trans (Below.trans ((Below.refl _ _).alloc (Nat.le_refl _) _) (hb2.mono (by simp)) |>.mono B1.out.size)); have hm1 := whole_cell G2.out 0; have hm2 := whole_cell G2.out 1; have hf1 := whole_free G2.out 0; have hf2 := whole_free G2.out 1; clear b2 hb2)
              | (go_at_call 46; refine (small_any _ _ 130 _ (V2.out.stored2 hm1 hm2 _ _) (by decide)).mono ?_; rw [Y1.out, Y2.out]; rintro e w3 ⟨rfl, hb3⟩; have B3 := Lib.hid (after_set B2.out B1.out hb3); clear hb3))
            go_ret2
            exact ⟨rfl, B3.out⟩
          · obtain ⟨rfl, rfl⟩ := p4 h5
            have Y1 : RowKit.Hid (bad (-(D : Int)) = 0) := HY1.out
            have Y2 : RowKit.Hid (sm (-(D : Int)) = sg true N) := HY2.out
            have h6 : ¬ n < X.size := by rw [HS.out]; exact h5
            clear T1 T2 HY1 HY2 HV p1 p2 p3 p4 h5
            generalize sg true N = Z at *
            go_enter Tryd.func31, Tryd.ntmps31
            go_wp2_with (first
              | (go_at_call 21; refine (hM _).out.mono ?_; rintro e w' ⟨rfl, rfl⟩)
              | (go_at_call 44; refine (HB _).out.mono ?_; rintro e w1 ⟨v, rfl, b1, hb1⟩; obtain ⟨b, A, nn, c, rfl⟩ := b1.opened; have V1 := Lib.hid b1; have B1 := Lib.hid hb1; clear b1 hb1)
              | (go_at_call 45; refine (minus_big _ _ 130 _ (V1.out.below ?_) (by decide)).mono ?_; exact (Below.refl _ _).alloc (Nat.le_refl _) _; rintro e w2 ⟨u, rfl, b2, hb2⟩; obtain ⟨b', A', nn', c', rfl⟩ := b2.opened; have V2 := Lib.hid b2; have G2 := Lib.hid (new_cells hb2); have B2 := Lib.hid (B1.out.trans (Below.trans ((Below.refl _ _).alloc (Nat.le_refl _) _) (hb2.mono (by simp)) |>.mono B1.out.size)); have hm1 := whole_cell G2.out 0; have hm2 := whole_cell G2.out 1; have hf1 := whole_free G2.out 0; have hf2 := whole_free G2.out 1; clear b2 hb2)
              | (go_at_call 46; refine (small_any _ _ 130 _ (V2.out.stored2 hm1 hm2 _ _) (by decide)).mono ?_; rw [Y1.out, Y2.out]; rintro e w3 ⟨rfl, hb3⟩; have B3 := Lib.hid (after_set B2.out B1.out hb3); clear hb3))
            go_ret2
            exact ⟨rfl, B3.out⟩
      · clear hk HK
        by_cases h4 : (n : Int) < 1
        · obtain ⟨rfl, rfl⟩ := T1.out h4
          rw [show sg true 0 = 0 from rfl]
          clear T1 T2 HY1 HY2 HV HB
          go_enter Tryd.func31, Tryd.ntmps31
          go_wp2_with (first
            | (go_at_call 21; refine (hM _).out.mono ?_; rintro e w' ⟨rfl, rfl⟩))
          go_ret2
          exact ⟨rfl, Below.refl _ _⟩
        · obtain ⟨p1, p2⟩ := T2.out h4
          rcases HV.out with ⟨rfl, rfl, _⟩ | ⟨rfl, _, _⟩
          · obtain ⟨rfl, rfl⟩ := p1 rfl
            have Y1 : RowKit.Hid (bad (-(D : Int)) = 5) := HY1.out
            have Y2 : RowKit.Hid (sm (-(D : Int)) = 0) := HY2.out
            rw [show sg true 0 = 0 from rfl]
            clear T1 T2 HY1 HY2 HV p1 p2
            go_enter Tryd.func31, Tryd.ntmps31
            go_wp2_with (first
              | (go_at_call 21; refine (hM _).out.mono ?_; rintro e w' ⟨rfl, rfl⟩)
              | (go_at_call 44; refine (HB _).out.mono ?_; rintro e w1 ⟨v, rfl, b1, hb1⟩; obtain ⟨b, A, nn, c, rfl⟩ := b1.opened; have V1 := Lib.hid b1; have B1 := Lib.hid hb1; clear b1 hb1)
              | (go_at_call 45; refine (minus_big _ _ 130 _ (V1.out.below ?_) (by decide)).mono ?_; exact (Below.refl _ _).alloc (Nat.le_refl _) _; rintro e w2 ⟨u, rfl, b2, hb2⟩; obtain ⟨b', A', nn', c', rfl⟩ := b2.opened; have V2 := Lib.hid b2; have G2 := Lib.hid (new_cells hb2); have B2 := Lib.hid (B1.out.trans (Below.trans ((Below.refl _ _).alloc (Nat.le_refl _) _) (hb2.mono (by simp)) |>.mono B1.out.size)); have hm1 := whole_cell G2.out 0; have hm2 := whole_cell G2.out 1; have hf1 := whole_free G2.out 0; have hf2 := whole_free G2.out 1; clear b2 hb2)
              | (go_at_call 46; refine (small_any _ _ 130 _ (V2.out.stored2 hm1 hm2 _ _) (by decide)).mono ?_; rw [Y1.out, Y2.out]; rintro e w3 ⟨rfl, hb3⟩; have B3 := Lib.hid (after_set B2.out B1.out hb3); clear hb3))
            go_ret2
            exact ⟨rfl, B3.out⟩
          · obtain ⟨p3, p4⟩ := p2 rfl
            by_cases h5 : n < l.length
            · obtain ⟨rfl, rfl⟩ := p3 h5
              have Y1 : RowKit.Hid (bad (-(D : Int)) = 0) := HY1.out
              have Y2 : RowKit.Hid (sm (-(D : Int)) = sg true VN) := HY2.out
              have h6 : n < X.size := by rw [HS.out]; exact h5
              rw [show sg true 0 = 0 from rfl]
              clear T1 T2 HY1 HY2 HV p1 p2 p3 p4 h5
              generalize sg true VN = Z at *
              go_enter Tryd.func31, Tryd.ntmps31
              go_wp2_with (first
                | (go_at_call 21; refine (hM _).out.mono ?_; rintro e w' ⟨rfl, rfl⟩)
                | (go_at_call 44; refine (HB _).out.mono ?_; rintro e w1 ⟨v, rfl, b1, hb1⟩; obtain ⟨b, A, nn, c, rfl⟩ := b1.opened; have V1 := Lib.hid b1; have B1 := Lib.hid hb1; clear b1 hb1)
                | (go_at_call 45; refine (minus_big _ _ 130 _ (V1.out.below ?_) (by decide)).mono ?_; exact (Below.refl _ _).alloc (Nat.le_refl _) _; rintro e w2 ⟨u, rfl, b2, hb2⟩; obtain ⟨b', A', nn', c', rfl⟩ := b2.opened; have V2 := Lib.hid b2; have G2 := Lib.hid (new_cells hb2); have B2 := Lib.hid (B1.out.trans (Below.trans ((Below.refl _ _).alloc (Nat.le_refl _) _) (hb2.mono (by simp)) |>.mono B1.out.size)); have hm1 := whole_cell G2.out 0; have hm2 := whole_cell G2.out 1; have hf1 := whole_free G2.out 0; have hf2 := whole_free G2.out 1; clear b2 hb2)
                | (go_at_call 46; refine (small_any _ _ 130 _ (V2.out.stored2 hm1 hm2 _ _) (by decide)).mono ?_; rw [Y1.out, Y2.out]; rintro e w3 ⟨rfl, hb3⟩; have B3 := Lib.hid (after_set B2.out B1.out hb3); clear hb3))
              go_ret2
              exact ⟨rfl, B3.out⟩
            · obtain ⟨rfl, rfl⟩ := p4 h5
              have Y1 : RowKit.Hid (bad (-(D : Int)) = 0) := HY1.out
              have Y2 : RowKit.Hid (sm (-(D : Int)) = sg true N) := HY2.out
              have h6 : ¬ n < X.size := by rw [HS.out]; exact h5
              clear T1 T2 HY1 HY2 HV p1 p2 p3 p4 h5
              generalize sg true N = Z at *
              go_enter Tryd.func31, Tryd.ntmps31
              go_wp2_with (first
                | (go_at_call 21; refine (hM _).out.mono ?_; rintro e w' ⟨rfl, rfl⟩)
                | (go_at_call 44; refine (HB _).out.mono ?_; rintro e w1 ⟨v, rfl, b1, hb1⟩; obtain ⟨b, A, nn, c, rfl⟩ := b1.opened; have V1 := Lib.hid b1; have B1 := Lib.hid hb1; clear b1 hb1)
                | (go_at_call 45; refine (minus_big _ _ 130 _ (V1.out.below ?_) (by decide)).mono ?_; exact (Below.refl _ _).alloc (Nat.le_refl _) _; rintro e w2 ⟨u, rfl, b2, hb2⟩; obtain ⟨b', A', nn', c', rfl⟩ := b2.opened; have V2 := Lib.hid b2; have G2 := Lib.hid (new_cells hb2); have B2 := Lib.hid (B1.out.trans (Below.trans ((Below.refl _ _).alloc (Nat.le_refl _) _) (hb2.mono (by simp)) |>.mono B1.out.size)); have hm1 := whole_cell G2.out 0; have hm2 := whole_cell G2.out 1; have hf1 := whole_free G2.out 0; have hf2 := whole_free G2.out 1; clear b2 hb2)
                | (go_at_call 46; refine (small_any _ _ 130 _ (V2.out.stored2 hm1 hm2 _ _) (by decide)).mono ?_; rw [Y1.out, Y2.out]; rintro e w3 ⟨rfl, hb3⟩; have B3 := Lib.hid (after_set B2.out B1.out hb3); clear hb3))
              go_ret2
              exact ⟨rfl, B3.out⟩
    · have hex : s.extract 1 s.size = X := by rw [HX.out, hl, Lib.extract_from]
      have hps : (s.size : Int) > 0 := by omega
      clear HF hl HX hlen
      have hk := HK.out
      rcases (by omega : (M < L ∧ n = M) ∨ (¬ M < L ∧ n = L)) with ⟨g1, rfl⟩ | ⟨g1, rfl⟩
      · clear hk HK
        have h4 : ¬ ((n : Int) < 1) := by omega
        obtain ⟨p1, p2⟩ := T2.out h4
        rcases HV.out with ⟨rfl, rfl, _⟩ | ⟨rfl, _, _⟩
        · obtain ⟨rfl, rfl⟩ := p1 rfl
          have Y1 : RowKit.Hid (bad (D : Int) = 5) := HY1.out
          have Y2 : RowKit.Hid (sm (D : Int) = 0) := HY2.out
          rw [show sg false 0 = 0 from rfl]
          clear T1 T2 HY1 HY2 HV p1 p2
          go_enter Tryd.func31, Tryd.ntmps31
          go_wp2_with (first
            | (go_at_call 21; refine (hM _).out.mono ?_; rintro e w' ⟨rfl, rfl⟩)
            | (go_at_call 44; refine (HB _).out.mono ?_; rintro e w1 ⟨v, rfl, b1, hb1⟩; obtain ⟨b, A, nn, c, rfl⟩ := b1.opened; have V1 := Lib.hid b1; have B1 := Lib.hid hb1; clear b1 hb1)
            | (go_at_call 46; refine (small_any _ _ 130 _ (V1.out.below ?_) (by decide)).mono ?_; exact (Below.refl _ _).alloc (Nat.le_refl _) _; rw [Y1.out, Y2.out]; rintro e w3 ⟨rfl, hb3⟩; have B3 := Lib.hid (after_new B1.out hb3); clear hb3))
          go_ret2
          exact ⟨rfl, B3.out⟩
        · obtain ⟨p3, p4⟩ := p2 rfl
          by_cases h5 : n < l.length
          · obtain ⟨rfl, rfl⟩ := p3 h5
            have Y1 : RowKit.Hid (bad (D : Int) = 0) := HY1.out
            have Y2 : RowKit.Hid (sm (D : Int) = sg false VN) := HY2.out
            have h6 : n < X.size := by rw [HS.out]; exact h5
            rw [show sg false 0 = 0 from rfl]
            clear T1 T2 HY1 HY2 HV p1 p2 p3 p4 h5
            generalize sg false VN = Z at *
            go_enter Tryd.func31, Tryd.ntmps31
            go_wp2_with (first
              | (go_at_call 21; refine (hM _).out.mono ?_; rintro e w' ⟨rfl, rfl⟩)
              | (go_at_call 44; refine (HB _).out.mono ?_; rintro e w1 ⟨v, rfl, b1, hb1⟩; obtain ⟨b, A, nn, c, rfl⟩ := b1.opened; have V1 := Lib.hid b1; have B1 := Lib.hid hb1; clear b1 hb1)
              | (go_at_call 46; refine (small_any _ _ 130 _ (V1.out.below ?_) (by decide)).mono ?_; exact (Below.refl _ _).alloc (Nat.le_refl _) _; rw [Y1.out, Y2.out]; rintro e w3 ⟨rfl, hb3⟩; have B3 := Lib.hid (after_new B1.out hb3); clear hb3))
            go_ret2
            exact ⟨rfl, B3.out⟩
          · obtain ⟨rfl, rfl⟩ := p4 h5
            have Y1 : RowKit.Hid (bad (D : Int) = 0) := HY1.out
            have Y2 : RowKit.Hid (sm (D : Int) = sg false N) := HY2.out
            have h6 : ¬ n < X.size := by rw [HS.out]; exact h5
            clear T1 T2 HY1 HY2 HV p1 p2 p3 p4 h5
            generalize sg false N = Z at *
            go_enter Tryd.func31, Tryd.ntmps31
            go_wp2_with (first
              | (go_at_call 21; refine (hM _).out.mono ?_; rintro e w' ⟨rfl, rfl⟩)
              | (go_at_call 44; refine (HB _).out.mono ?_; rintro e w1 ⟨v, rfl, b1, hb1⟩; obtain ⟨b, A, nn, c, rfl⟩ := b1.opened; have V1 := Lib.hid b1; have B1 := Lib.hid hb1; clear b1 hb1)
              | (go_at_call 46; refine (small_any _ _ 130 _ (V1.out.below ?_) (by decide)).mono ?_; exact (Below.refl _ _).alloc (Nat.le_refl _) _; rw [Y1.out, Y2.out]; rintro e w3 ⟨rfl, hb3⟩; have B3 := Lib.hid (after_new B1.out hb3); clear hb3))
            go_ret2
            exact ⟨rfl, B3.out⟩
      · clear hk HK
        by_cases h4 : (n : Int) < 1
        · obtain ⟨rfl, rfl⟩ := T1.out h4
          rw [show sg false 0 = 0 from rfl]
          clear T1 T2 HY1 HY2 HV HB
          go_enter Tryd.func31, Tryd.ntmps31
          go_wp2_with (first
            | (go_at_call 21; refine (hM _).out.mono ?_; rintro e w' ⟨rfl, rfl⟩))
          go_ret2
          exact ⟨rfl, Below.refl _ _⟩
        · obtain ⟨p1, p2⟩ := T2.out h4
          rcases HV.out with ⟨rfl, rfl, _⟩ | ⟨rfl, _, _⟩
          · obtain ⟨rfl, rfl⟩ := p1 rfl
            have Y1 : RowKit.Hid (bad (D : Int) = 5) := HY1.out
            have Y2 : RowKit.Hid (sm (D : Int) = 0) := HY2.out
            rw [show sg false 0 = 0 from rfl]
            clear T1 T2 HY1 HY2 HV p1 p2
            go_enter Tryd.func31, Tryd.ntmps31
            go_wp2_with (first
              | (go_at_call 21; refine (hM _).out.mono ?_; rintro e w' ⟨rfl, rfl⟩)
              | (go_at_call 44; refine (HB _).out.mono ?_; rintro e w1 ⟨v, rfl, b1, hb1⟩; obtain ⟨b, A, nn, c, rfl⟩ := b1.opened; have V1 := Lib.hid b1; have B1 := Lib.hid hb1; clear b1 hb1)
              | (go_at_call 46; refine (small_any _ _ 130 _ (V1.out.below ?_) (by decide)).mono ?_; exact (Below.refl _ _).alloc (Nat.le_refl _) _; rw [Y1.out, Y2.out]; rintro e w3 ⟨rfl, hb3⟩; have B3 := Lib.hid (after_new B1.out hb3); clear hb3))
            go_ret2
            exact ⟨rfl, B3.out⟩
          · obtain ⟨p3, p4⟩ := p2 rfl
            by_cases h5 : n < l.length
            · obtain ⟨rfl, rfl⟩ := p3 h5
              have Y1 : RowKit.Hid (bad (D : Int) = 0) := HY1.out
              have Y2 : RowKit.Hid (sm (D : Int) = sg false VN) := HY2.out
              have h6 : n < X.size := by rw [HS.out]; exact h5
              rw [show sg false 0 = 0 from rfl]
              clear T1 T2 HY1 HY2 HV p1 p2 p3 p4 h5
              generalize sg false VN = Z at *
              go_enter Tryd.func31, Tryd.ntmps31
              go_wp2_with (first
                | (go_at_call 21; refine (hM _).out.mono ?_; rintro e w' ⟨rfl, rfl⟩)
                | (go_at_call 44; refine (HB _).out.mono ?_; rintro e w1 ⟨v, rfl, b1, hb1⟩; obtain ⟨b, A, nn, c, rfl⟩ := b1.opened; have V1 := Lib.hid b1; have B1 := Lib.hid hb1; clear b1 hb1)
                | (go_at_call 46; refine (small_any _ _ 130 _ (V1.out.below ?_) (by decide)).mono ?_; exact (Below.refl _ _).alloc (Nat.le_refl _) _; rw [Y1.out, Y2.out]; rintro e w3 ⟨rfl, hb3⟩; have B3 := Lib.hid (after_new B1.out hb3); clear hb3))
              go_ret2
              exact ⟨rfl, B3.out⟩
            · obtain ⟨rfl, rfl⟩ := p4 h5
              have Y1 : RowKit.Hid (bad (D : Int) = 0) := HY1.out
              have Y2 : RowKit.Hid (sm (D : Int) = sg false N) := HY2.out
              have h6 : ¬ n < X.size := by rw [HS.out]; exact h5
              clear T1 T2 HY1 HY2 HV p1 p2 p3 p4 h5
              generalize sg false N = Z at *
              go_enter Tryd.func31, Tryd.ntmps31
              go_wp2_with (first
                | (go_at_call 21; refine (hM _).out.mono ?_; rintro e w' ⟨rfl, rfl⟩)
                | (go_at_call 44; refine (HB _).out.mono ?_; rintro e w1 ⟨v, rfl, b1, hb1⟩; obtain ⟨b, A, nn, c, rfl⟩ := b1.opened; have V1 := Lib.hid b1; have B1 := Lib.hid hb1; clear b1 hb1)
                | (go_at_call 46; refine (small_any _ _ 130 _ (V1.out.below ?_) (by decide)).mono ?_; exact (Below.refl _ _).alloc (Nat.le_refl _) _; rw [Y1.out, Y2.out]; rintro e w3 ⟨rfl, hb3⟩; have B3 := Lib.hid (after_new B1.out hb3); clear hb3))
              go_ret2
              exact ⟨rfl, B3.out⟩
    · obtain rfl : X = s := by rw [HX.out, hl]
      have hps : (X.size : Int) > 0 := by omega
      clear HF hl HX hlen
      have hk := HK.out
      rcases (by omega : (M < L ∧ n = M) ∨ (¬ M < L ∧ n = L)) with ⟨g1, rfl⟩ | ⟨g1, rfl⟩
      · clear hk HK
        have h4 : ¬ ((n : Int) < 1) := by omega
        obtain ⟨p1, p2⟩ := T2.out h4
        rcases HV.out with ⟨rfl, rfl, _⟩ | ⟨rfl, _, _⟩
        · obtain ⟨rfl, rfl⟩ := p1 rfl
          have Y1 : RowKit.Hid (bad (D : Int) = 5) := HY1.out
          have Y2 : RowKit.Hid (sm (D : Int) = 0) := HY2.out
          rw [show sg false 0 = 0 from rfl]
          clear T1 T2 HY1 HY2 HV p1 p2
          go_enter Tryd.func31, Tryd.ntmps31
          go_wp2_with (first
            | (go_at_call 21; refine (hM _).out.mono ?_; rintro e w' ⟨rfl, rfl⟩)
            | (go_at_call 44; refine (HB _).out.mono ?_; rintro e w1 ⟨v, rfl, b1, hb1⟩; obtain ⟨b, A, nn, c, rfl⟩ := b1.opened; have V1 := Lib.hid b1; have B1 := Lib.hid hb1; clear b1 hb1)
            | (go_at_call 46; refine (small_any _ _ 130 _ (V1.out.below ?_) (by decide)).mono ?_; exact (Below.refl _ _).alloc (Nat.le_refl _) _; rw [Y1.out, Y2.out]; rintro e w3 ⟨rfl, hb3⟩; have B3 := Lib.hid (after_new B1.out hb3); clear hb3))
          go_ret2
          exact ⟨rfl, B3.out⟩
        · obtain ⟨p3, p4⟩ := p2 rfl
          by_cases h5 : n < l.length
          · obtain ⟨rfl, rfl⟩ := p3 h5
            have Y1 : RowKit.Hid (bad (D : Int) = 0) := HY1.out
            have Y2 : RowKit.Hid (sm (D : Int) = sg false VN) := HY2.out
            have h6 : n < X.size := by rw [HS.out]; exact h5
            rw [show sg false 0 = 0 from rfl]
            clear T1 T2 HY1 HY2 HV p1 p2 p3 p4 h5
            generalize sg false VN = Z at *
            go_enter Tryd.func31, Tryd.ntmps31
            go_wp2_with (first
              | (go_at_call 21; refine (hM _).out.mono ?_; rintro e w' ⟨rfl, rfl⟩)
              | (go_at_call 44; refine (HB _).out.mono ?_; rintro e w1 ⟨v, rfl, b1, hb1⟩; obtain ⟨b, A, nn, c, rfl⟩ := b1.opened; have V1 := Lib.hid b1; have B1 := Lib.hid hb1; clear b1 hb1)
              | (go_at_call 46; refine (small_any _ _ 130 _ (V1.out.below ?_) (by decide)).mono ?_; exact (Below.refl _ _).alloc (Nat.le_refl _) _; rw [Y1.out, Y2.out]; rintro e w3 ⟨rfl, hb3⟩; have B3 := Lib.hid (after_new B1.out hb3); clear hb3))
            go_ret2
            exact ⟨rfl, B3.out⟩
          · obtain ⟨rfl, rfl⟩ := p4 h5
            have Y1 : RowKit.Hid (bad (D : Int) = 0) := HY1.out
            have Y2 : RowKit.Hid (sm (D : Int) = sg false N) := HY2.out
            have h6 : ¬ n < X.size := by rw [HS.out]; exact h5
            clear T1 T2 HY1 HY2 HV p1 p2 p3 p4 h5
            generalize sg false N = Z at *
            go_enter Tryd.func31, Tryd.ntmps31
            go_wp2_with (first
              | (go_at_call 21; refine (hM _).out.mono ?_; rintro e w' ⟨rfl, rfl⟩)
              | (go_at_call 44; refine (HB _).out.mono ?_; rintro e w1 ⟨v, rfl, b1, hb1⟩; obtain ⟨b, A, nn, c, rfl⟩ := b1.opened; have V1 := Lib.hid b1; have B1 := Lib.hid hb1; clear b1 hb1)
              | (go_at_call 46; refine (small_any _ _ 130 _ (V1.out.below ?_) (by decide)).mono ?_; exact (Below.refl _ _).alloc (Nat.le_refl _) _; rw [Y1.out, Y2.out]; rintro e w3 ⟨rfl, hb3⟩; have B3 := Lib.hid (after_new B1.out hb3); clear hb3))
            go_ret2
            exact ⟨rfl, B3.out⟩
      · clear hk HK
        by_cases h4 : (n : Int) < 1
        · obtain ⟨rfl, rfl⟩ := T1.out h4
          rw [show sg false 0 = 0 from rfl]
          clear T1 T2 HY1 HY2 HV HB
          go_enter Tryd.func31, Tryd.ntmps31
          go_wp2_with (first
            | (go_at_call 21; refine (hM _).out.mono ?_; rintro e w' ⟨rfl, rfl⟩))
          go_ret2
          exact ⟨rfl, Below.refl _ _⟩
        · obtain ⟨p1, p2⟩ := T2.out h4
          rcases HV.out with ⟨rfl, rfl, _⟩ | ⟨rfl, _, _⟩
          · obtain ⟨rfl, rfl⟩ := p1 rfl
            have Y1 : RowKit.Hid (bad (D : Int) = 5) := HY1.out
            have Y2 : RowKit.Hid (sm (D : Int) = 0) := HY2.out
            rw [show sg false 0 = 0 from rfl]
            clear T1 T2 HY1 HY2 HV p1 p2
            go_enter Tryd.func31, Tryd.ntmps31
            go_wp2_with (first
              | (go_at_call 21; refine (hM _).out.mono ?_; rintro e w' ⟨rfl, rfl⟩)
              | (go_at_call 44; refine (HB _).out.mono ?_; rintro e w1 ⟨v, rfl, b1, hb1⟩; obtain ⟨b, A, nn, c, rfl⟩ := b1.opened; have V1 := Lib.hid b1; have B1 := Lib.hid hb1; clear b1 hb1)
              | (go_at_call 46; refine (small_any _ _ 130 _ (V1.out.below ?_) (by decide)).mono ?_; exact (Below.refl _ _).alloc (Nat.le_refl _) _; rw [Y1.out, Y2.out]; rintro e w3 ⟨rfl, hb3⟩; have B3 := Lib.hid (after_new B1.out hb3); clear hb3))
            go_ret2
            exact ⟨rfl, B3.out⟩
          · obtain ⟨p3, p4⟩ := p2 rfl
            by_cases h5 : n < l.length
            · obtain ⟨rfl, rfl⟩ := p3 h5
              have Y1 : RowKit.Hid (bad (D : Int) = 0) := HY1.out
              have Y2 : RowKit.Hid (sm (D : Int) = sg false VN) := HY2.out
              have h6 : n < X.size := by rw [HS.out]; exact h5
              rw [show sg false 0 = 0 from rfl]
              clear T1 T2 HY1 HY2 HV p1 p2 p3 p4 h5
              generalize sg false VN = Z at *
              go_enter Tryd.func31, Tryd.ntmps31
              go_wp2_with (first
                | (go_at_call 21; refine (hM _).out.mono ?_; rintro e w' ⟨rfl, rfl⟩)
                | (go_at_call 44; refine (HB _).out.mono ?_; rintro e w1 ⟨v, rfl, b1, hb1⟩; obtain ⟨b, A, nn, c, rfl⟩ := b1.opened; have V1 := Lib.hid b1; have B1 := Lib.hid hb1; clear b1 hb1)
                | (go_at_call 46; refine (small_any _ _ 130 _ (V1.out.below ?_) (by decide)).mono ?_; exact (Below.refl _ _).alloc (Nat.le_refl _) _; rw [Y1.out, Y2.out]; rintro e w3 ⟨rfl, hb3⟩; have B3 := Lib.hid (after_new B1.out hb3); clear hb3))
              go_ret2
              exact ⟨rfl, B3.out⟩
            · obtain ⟨rfl, rfl⟩ := p4 h5
              have Y1 : RowKit.Hid (bad (D : Int) = 0) := HY1.out
              have Y2 : RowKit.Hid (sm (D : Int) = sg false N) := HY2.out
              have h6 : ¬ n < X.size := by rw [HS.out]; exact h5
              clear T1 T2 HY1 HY2 HV p1 p2 p3 p4 h5
              generalize sg false N = Z at *
              go_enter Tryd.func31, Tryd.ntmps31
              go_wp2_with (first
                | (go_at_call 21; refine (hM _).out.mono ?_; rintro e w' ⟨rfl, rfl⟩)
                | (go_at_call 44; refine (HB _).out.mono ?_; rintro e w1 ⟨v, rfl, b1, hb1⟩; obtain ⟨b, A, nn, c, rfl⟩ := b1.opened; have V1 := Lib.hid b1; have B1 := Lib.hid hb1; clear b1 hb1)
                | (go_at_call 46; refine (small_any _ _ 130 _ (V1.out.below ?_) (by decide)).mono ?_; exact (Below.refl _ _).alloc (Nat.le_refl _) _; rw [Y1.out, Y2.out]; rintro e w3 ⟨rfl, hb3⟩; have B3 := Lib.hid (after_new B1.out hb3); clear hb3))
              go_ret2
              exact ⟨rfl, B3.out⟩
end Go.Proofs.YtmfjfbofkkbmiaaDoor
