/- The document's Parse of a day's text: the walk. (Written by gen_week.py.) -/
import Derived.Test.YtplibjgfdnbifaaDoorWeekD
import Derived.Test.YtplibjgfdnbifaaDoorWeekC
namespace Go.Proofs.YtplibjgfdnbifaaDoor
open Go.RowKit
set_option linter.unusedVariables false

/-- What the three Wholes answer of a text with k figures in front. -/
theorem three_wholes (X : ByteArray) (k : Nat) (h4 : 4 ≤ k) (h5 : k ≤ 5) (hk : lead X.data.toList = k) (hl : X.data.toList.length = k + 6) :
    (∀ w, Calls Tryd.prog 41 #[.string (X.extract 0 k), .int .i64 1, .int .i64 5] w fun e w' => e = .returned (.tuple #[.int .i64 (dv (X.data.toList.take k) : Nat), .int .i64 0]) ∧ Below w.heap.size w w') ∧
    (∃ E N : Int, (∀ w, Calls Tryd.prog 41 #[.string (X.extract (k + 2) (k + 4)), .int .i64 2, .int .i64 2] w fun e w' => e = .returned (.tuple #[.int .i64 N, .int .i64 E]) ∧ Below w.heap.size w w') ∧
      (¬ 2 ≤ lead ((X.data.toList.drop (k + 2)).take 2) → E = 2) ∧ (2 ≤ lead ((X.data.toList.drop (k + 2)).take 2) → E = 0 ∧ N = (dv ((X.data.toList.drop (k + 2)).take 2) : Nat))) ∧
    (∃ E N : Int, (∀ w, Calls Tryd.prog 41 #[.string (X.extract (k + 5) X.size), .int .i64 1, .int .i64 1] w fun e w' => e = .returned (.tuple #[.int .i64 N, .int .i64 E]) ∧ Below w.heap.size w w') ∧
      (¬ 1 ≤ lead (X.data.toList.drop (k + 5)) → E = 2) ∧ (1 ≤ lead (X.data.toList.drop (k + 5)) → E = 0 ∧ N = (dv ((X.data.toList.drop (k + 5)).take 1) : Nat))) := by
  have hsz : X.data.toList.length = X.size := by simp
  have l1 : (X.extract 0 k).data.toList = X.data.toList.take k := by rw [Lib.extract_upto]
  have l2 : (X.extract (k + 2) (k + 4)).data.toList = (X.data.toList.drop (k + 2)).take 2 := by rw [w_cut_mid, show k + 4 - (k + 2) = 2 by omega]
  have l3 : (X.extract (k + 5) X.size).data.toList = X.data.toList.drop (k + 5) := by rw [Lib.extract_from]
  have z := fun (Y : ByteArray) => (show Y.data.toList.length = Y.size by simp)
  have n1 : (X.data.toList.take k).length = k := by rw [List.length_take]; omega
  have n2 : ((X.data.toList.drop (k + 2)).take 2).length = 2 := by rw [List.length_take, List.length_drop]; omega
  have n3 : (X.data.toList.drop (k + 5)).length = 1 := by rw [List.length_drop]; omega
  have s1 : (X.extract 0 k).size ≤ maxLen := by rw [← z, l1, n1]; unfold maxLen; omega
  have s2 : (X.extract (k + 2) (k + 4)).size ≤ maxLen := by rw [← z, l2, n2]; decide
  have s3 : (X.extract (k + 5) X.size).size ≤ maxLen := by rw [← z, l3, n3]; decide
  have a1 : lead (X.data.toList.take k) = k := by rw [lead_take]; omega
  refine ⟨fun w => ?_, ?_, ?_⟩
  · have h := rwhole_any (X.extract 0 k) 1 5 w s1 (by decide) (by decide)
    have g := (wh_gen (r := X.data.toList.take k) (a := 1) (b := 5) (by omega) (by omega) (by omega) (by omega)).2 (by omega) (by omega)
    rw [l1] at h
    have g1 : whE (X.data.toList.take k) 1 5 mx = 0 := g.1
    have g2 : whN (X.data.toList.take k) 1 5 mx = dv (X.data.toList.take k) := g.2
    rw [g1, g2] at h
    exact h
  · have g := wh_two (r := (X.data.toList.drop (k + 2)).take 2) (n := 2) (by omega) (by omega) n2
    refine ⟨whE ((X.data.toList.drop (k + 2)).take 2) 2 2 mx, (whN ((X.data.toList.drop (k + 2)).take 2) 2 2 mx : Nat), fun w => ?_, g.1, fun c => ⟨(g.2 c).1, by have := (g.2 c).2; exact congrArg Int.ofNat this⟩⟩
    have h := rwhole_any (X.extract (k + 2) (k + 4)) 2 2 w s2 (by decide) (by decide)
    rw [l2] at h
    exact h
  · have g := wh_two (r := X.data.toList.drop (k + 5)) (n := 1) (by omega) (by omega) n3
    have t1 : (X.data.toList.drop (k + 5)).take 1 = X.data.toList.drop (k + 5) := List.take_of_length_le (by omega)
    refine ⟨whE (X.data.toList.drop (k + 5)) 1 1 mx, (whN (X.data.toList.drop (k + 5)) 1 1 mx : Nat), fun w => ?_, g.1, fun c => ⟨(g.2 c).1, by rw [t1]; have := (g.2 c).2; exact congrArg Int.ofNat this⟩⟩
    have h := rwhole_any (X.extract (k + 5) X.size) 1 1 w s3 (by decide) (by decide)
    rw [l3] at h
    exact h

theorem pa_no {l : List UInt8} (h : ¬ Good l) : paN l = 0 ∧ paE l = 2 := ⟨if_neg h, if_neg h⟩
theorem pa_yes {l : List UInt8} (h : Good l) : paN l = wkN (gY l) (gW l) (gD l) ∧ paE l = wkE (gY l) (gW l) (gD l) := ⟨if_pos h, if_pos h⟩


set_option maxRecDepth 100000 in
set_option maxHeartbeats 4000000 in
theorem rparse_p4 (s X : ByteArray) (w : World) (hs : s.size ≤ 1000) (hk : lead X.data.toList = 4) (hl : X.size = 10) (hb : bd s.data.toList = X.data.toList) (hg : sig s.data.toList = 0) (hp : 0 < X.size) (h45 : ((X[0].toNat : Int) == 45) = false) (hsx : X = s) :
    Calls Tryd.prog 23 #[.string s] w fun e w' => e = .returned (.tuple #[.int .i64 (paN s.data.toList), .int .i64 (paE s.data.toList)]) ∧ Below w.heap.size w w' := by
  have hlen : X.data.toList.length = 10 := by
    have : X.data.toList.length = X.size := by simp
    omega
  have hM := Lib.hid (fun w => many_any X w (by rw [hl]; decide))
  rw [hk] at hM
  have hM : RowKit.Hid (∀ w, Calls Tryd.prog 40 #[.string X] w fun e w' => e = .returned (.int .i64 4) ∧ w = w') := hM
  obtain ⟨W1, ⟨E2, N2, W2, p2, q2⟩, ⟨E3, N3, W3, p3, q3⟩⟩ := three_wholes X 4 (by omega) (by omega) hk (by rw [hlen])
  simp only [Nat.reduceAdd] at W1 W2 W3 p2 q2 p3 q3
  have W1 := Lib.hid W1; have W2 := Lib.hid W2; have W3 := Lib.hid W3
  have hG := good_four (l := s.data.toList) (by unfold yl; rw [hb]; exact hk) (by rw [hb]; exact hlen)
  rw [hb, hg] at hG
  have hgY : gY s.data.toList = ((dv (X.data.toList.take 4) : Nat) : Int) := by unfold gY yl; rw [hb, hg, hk]; rfl
  have hgW : gW s.data.toList = ((dv ((X.data.toList.drop 6).take 2) : Nat) : Int) := by unfold gW yl; rw [hb, hk]
  have hgD : gD s.data.toList = ((dv ((X.data.toList.drop 9).take 1) : Nat) : Int) := by unfold gD yl; rw [hb, hk]
  have hY := pa_yes (l := s.data.toList)
  have hN := pa_no (l := s.data.toList)
  rw [hgY, hgW, hgD] at hY
  have hd := w_dv_small (r := X.data.toList) (k := 4) (by omega) (by omega)
  have i0 : 0 < X.size := by omega
  have ia : 4 < X.size := by omega
  have ib : 5 < X.size := by omega
  have ic : 8 < X.size := by omega
  have hz0 := byte_is (X := X) i0 48; have hz0' := byte_no (X := X) i0 48
  have hza := byte_is (X := X) ia 45; have hza' := byte_no (X := X) ia 45
  have hzb := byte_is (X := X) ib 87; have hzb' := byte_no (X := X) ib 87
  have hzc := byte_is (X := X) ic 45; have hzc' := byte_no (X := X) ic 45
  generalize hD1 : dv (X.data.toList.take 4) = D1 at *
  generalize dv ((X.data.toList.drop 6).take 2) = D2 at *
  generalize dv ((X.data.toList.drop 9).take 1) = D3 at *
  generalize hPN : paN s.data.toList = pn at *
  generalize hPE : paE s.data.toList = pe at *
  generalize Good s.data.toList = G at *
  clear hPN hPE hD1 hgY hgW hgD hb hg hk
  have x1 : 10 ≤ X.size := by omega
  have x2 : X.size ≤ 10 := by omega
  have x3 : ((X.size : Int) != 10) = false := by rw [hl]; rfl
  clear hl hlen
  subst hsx
  by_cases a : X.data.toList[4]? = some 45
  · have a1 : ((X[4].toNat : Int) == 45) = true := hza.1 a
    have a2 : ((X[4].toNat : Int) != 45) = false := by rw [bne, a1]; rfl
    by_cases b : X.data.toList[5]? = some 87
    · have b1 : ((X[5].toNat : Int) == 87) = true := hzb.1 b
      have b2 : ((X[5].toNat : Int) != 87) = false := by rw [bne, b1]; rfl
      by_cases c : X.data.toList[8]? = some 45
      · have c1 : ((X[8].toNat : Int) == 45) = true := hzc.1 c
        have c2 : ((X[8].toNat : Int) != 45) = false := by rw [bne, c1]; rfl
        by_cases d : 2 ≤ lead ((X.data.toList.drop 6).take 2)
        · obtain ⟨rfl, rfl⟩ := q2 d
          by_cases f : 1 ≤ lead (X.data.toList.drop 9)
          · obtain ⟨rfl, rfl⟩ := q3 f
            obtain ⟨rfl, rfl⟩ := hY (hG.2 ⟨a, b, c, d, f, (fun x => absurd x.1 (by decide))⟩)
            clear hN hY hG p2 q2 p3 q3 hz0 hz0' hza hza' hzb hzb' hzc hzc'
            have m1 : (1 : Int) * (D1 : Int) = (D1 : Int) := by omega
            go_enter Tryd.func23, Tryd.ntmps23
            go_wp2_with (first
              | (go_at_call 40; refine (hM.out _).mono ?_; rintro e w' ⟨rfl, rfl⟩)
              | (go_at_call 41; ((with_reducible refine (W1.out _).mono ?_); rintro e w1 ⟨rfl, hb⟩; have B1 := Lib.hid hb; clear hb))
              | (go_at_call 41; ((with_reducible refine (W2.out _).mono ?_); rintro e w2 ⟨rfl, hb⟩; have B2 := Lib.hid (B1.out.trans (hb.mono B1.out.size)); clear hb))
              | (go_at_call 41; ((with_reducible refine (W3.out _).mono ?_); rintro e w3 ⟨rfl, hb⟩; have B3 := Lib.hid (B2.out.trans (hb.mono B2.out.size)); clear hb))
              | (go_at_call 18; refine (rwday_any _ _ _ _).mono ?_; rintro e w4 ⟨rfl, hb⟩; have B4 := Lib.hid (B3.out.trans (hb.mono B3.out.size)); clear hb))
            go_ret2
            first | exact ⟨rfl, B4.out⟩ | exact ⟨by simp only [m1], B4.out⟩
          · have f1 := p3 f
            obtain ⟨rfl, rfl⟩ := hN (fun g => f (hG.1 g).2.2.2.2.1)
            subst f1
            clear hN hY hG p2 q2 p3 q3 hz0 hz0' hza hza' hzb hzb' hzc hzc'
            go_enter Tryd.func23, Tryd.ntmps23
            go_wp2_with (first
              | (go_at_call 40; refine (hM.out _).mono ?_; rintro e w' ⟨rfl, rfl⟩)
              | (go_at_call 41; ((with_reducible refine (W1.out _).mono ?_); rintro e w1 ⟨rfl, hb⟩; have B1 := Lib.hid hb; clear hb))
              | (go_at_call 41; ((with_reducible refine (W2.out _).mono ?_); rintro e w2 ⟨rfl, hb⟩; have B2 := Lib.hid (B1.out.trans (hb.mono B1.out.size)); clear hb))
              | (go_at_call 41; ((with_reducible refine (W3.out _).mono ?_); rintro e w3 ⟨rfl, hb⟩; have B3 := Lib.hid (B2.out.trans (hb.mono B2.out.size)); clear hb)))
            go_ret2
            exact ⟨rfl, B3.out⟩
        · have d1 := p2 d
          obtain ⟨rfl, rfl⟩ := hN (fun g => d (hG.1 g).2.2.2.1)
          subst d1
          clear hN hY hG p2 q2 p3 q3 hz0 hz0' hza hza' hzb hzb' hzc hzc'
          go_enter Tryd.func23, Tryd.ntmps23
          go_wp2_with (first
            | (go_at_call 40; refine (hM.out _).mono ?_; rintro e w' ⟨rfl, rfl⟩)
            | (go_at_call 41; ((with_reducible refine (W1.out _).mono ?_); rintro e w1 ⟨rfl, hb⟩; have B1 := Lib.hid hb; clear hb))
            | (go_at_call 41; ((with_reducible refine (W2.out _).mono ?_); rintro e w2 ⟨rfl, hb⟩; have B2 := Lib.hid (B1.out.trans (hb.mono B1.out.size)); clear hb))
            | (go_at_call 41; ((with_reducible refine (W3.out _).mono ?_); rintro e w3 ⟨rfl, hb⟩; have B3 := Lib.hid (B2.out.trans (hb.mono B2.out.size)); clear hb)))
          go_ret2
          exact ⟨rfl, B3.out⟩
      · have c1 : ((X[8].toNat : Int) == 45) = false := hzc' c
        have c2 : ((X[8].toNat : Int) != 45) = true := by rw [bne, c1]; rfl
        obtain ⟨rfl, rfl⟩ := hN (fun g => c (hG.1 g).2.2.1)
        clear hN hY hG p2 q2 p3 q3 hz0 hz0' hza hza' hzb hzb' hzc hzc'
        go_enter Tryd.func23, Tryd.ntmps23
        go_wp2_with (first
          | (go_at_call 40; refine (hM.out _).mono ?_; rintro e w' ⟨rfl, rfl⟩))
        go_ret2
        exact ⟨rfl, Below.refl _ _⟩
    · have b1 : ((X[5].toNat : Int) == 87) = false := hzb' b
      have b2 : ((X[5].toNat : Int) != 87) = true := by rw [bne, b1]; rfl
      obtain ⟨rfl, rfl⟩ := hN (fun g => b (hG.1 g).2.1)
      clear hN hY hG p2 q2 p3 q3 hz0 hz0' hza hza' hzb hzb' hzc hzc'
      go_enter Tryd.func23, Tryd.ntmps23
      go_wp2_with (first
        | (go_at_call 40; refine (hM.out _).mono ?_; rintro e w' ⟨rfl, rfl⟩))
      go_ret2
      exact ⟨rfl, Below.refl _ _⟩
  · have a1 : ((X[4].toNat : Int) == 45) = false := hza' a
    have a2 : ((X[4].toNat : Int) != 45) = true := by rw [bne, a1]; rfl
    obtain ⟨rfl, rfl⟩ := hN (fun g => a (hG.1 g).1)
    clear hN hY hG p2 q2 p3 q3 hz0 hz0' hza hza' hzb hzb' hzc hzc'
    go_enter Tryd.func23, Tryd.ntmps23
    go_wp2_with (first
      | (go_at_call 40; refine (hM.out _).mono ?_; rintro e w' ⟨rfl, rfl⟩))
    go_ret2
    exact ⟨rfl, Below.refl _ _⟩

set_option maxRecDepth 100000 in
set_option maxHeartbeats 4000000 in
theorem rparse_p5 (s X : ByteArray) (w : World) (hs : s.size ≤ 1000) (hk : lead X.data.toList = 5) (hl : X.size = 11) (hb : bd s.data.toList = X.data.toList) (hg : sig s.data.toList = 0) (hp : 0 < X.size) (h45 : ((X[0].toNat : Int) == 45) = false) (hsx : X = s) :
    Calls Tryd.prog 23 #[.string s] w fun e w' => e = .returned (.tuple #[.int .i64 (paN s.data.toList), .int .i64 (paE s.data.toList)]) ∧ Below w.heap.size w w' := by
  have hlen : X.data.toList.length = 11 := by
    have : X.data.toList.length = X.size := by simp
    omega
  have hM := Lib.hid (fun w => many_any X w (by rw [hl]; decide))
  rw [hk] at hM
  have hM : RowKit.Hid (∀ w, Calls Tryd.prog 40 #[.string X] w fun e w' => e = .returned (.int .i64 5) ∧ w = w') := hM
  obtain ⟨W1, ⟨E2, N2, W2, p2, q2⟩, ⟨E3, N3, W3, p3, q3⟩⟩ := three_wholes X 5 (by omega) (by omega) hk (by rw [hlen])
  simp only [Nat.reduceAdd] at W1 W2 W3 p2 q2 p3 q3
  have W1 := Lib.hid W1; have W2 := Lib.hid W2; have W3 := Lib.hid W3
  have hG := good_five (l := s.data.toList) (by unfold yl; rw [hb]; exact hk) (by rw [hb]; exact hlen)
  rw [hb, hg] at hG
  have hgY : gY s.data.toList = ((dv (X.data.toList.take 5) : Nat) : Int) := by unfold gY yl; rw [hb, hg, hk]; rfl
  have hgW : gW s.data.toList = ((dv ((X.data.toList.drop 7).take 2) : Nat) : Int) := by unfold gW yl; rw [hb, hk]
  have hgD : gD s.data.toList = ((dv ((X.data.toList.drop 10).take 1) : Nat) : Int) := by unfold gD yl; rw [hb, hk]
  have hY := pa_yes (l := s.data.toList)
  have hN := pa_no (l := s.data.toList)
  rw [hgY, hgW, hgD] at hY
  have hd := w_dv_small (r := X.data.toList) (k := 5) (by omega) (by omega)
  have i0 : 0 < X.size := by omega
  have ia : 5 < X.size := by omega
  have ib : 6 < X.size := by omega
  have ic : 9 < X.size := by omega
  have hz0 := byte_is (X := X) i0 48; have hz0' := byte_no (X := X) i0 48
  have hza := byte_is (X := X) ia 45; have hza' := byte_no (X := X) ia 45
  have hzb := byte_is (X := X) ib 87; have hzb' := byte_no (X := X) ib 87
  have hzc := byte_is (X := X) ic 45; have hzc' := byte_no (X := X) ic 45
  generalize hD1 : dv (X.data.toList.take 5) = D1 at *
  generalize dv ((X.data.toList.drop 7).take 2) = D2 at *
  generalize dv ((X.data.toList.drop 10).take 1) = D3 at *
  generalize hPN : paN s.data.toList = pn at *
  generalize hPE : paE s.data.toList = pe at *
  generalize Good s.data.toList = G at *
  clear hPN hPE hD1 hgY hgW hgD hb hg hk
  have x1 : 11 ≤ X.size := by omega
  have x2 : X.size ≤ 11 := by omega
  have x3 : ((X.size : Int) != 11) = false := by rw [hl]; rfl
  clear hl hlen
  subst hsx
  by_cases a : X.data.toList[5]? = some 45
  · have a1 : ((X[5].toNat : Int) == 45) = true := hza.1 a
    have a2 : ((X[5].toNat : Int) != 45) = false := by rw [bne, a1]; rfl
    by_cases b : X.data.toList[6]? = some 87
    · have b1 : ((X[6].toNat : Int) == 87) = true := hzb.1 b
      have b2 : ((X[6].toNat : Int) != 87) = false := by rw [bne, b1]; rfl
      by_cases c : X.data.toList[9]? = some 45
      · have c1 : ((X[9].toNat : Int) == 45) = true := hzc.1 c
        have c2 : ((X[9].toNat : Int) != 45) = false := by rw [bne, c1]; rfl
        by_cases d : 2 ≤ lead ((X.data.toList.drop 7).take 2)
        · obtain ⟨rfl, rfl⟩ := q2 d
          by_cases f : 1 ≤ lead (X.data.toList.drop 10)
          · obtain ⟨rfl, rfl⟩ := q3 f
            by_cases g : X.data.toList[0]? = some 48
            · have g1 : ((X[0].toNat : Int) == 48) = true := hz0.1 g
              obtain ⟨rfl, rfl⟩ := hN (fun z => (hG.1 z).2.2.2.2.2.1 g)
              clear hN hY hG p2 q2 p3 q3 hz0 hz0' hza hza' hzb hzb' hzc hzc'
              go_enter Tryd.func23, Tryd.ntmps23
              go_wp2_with (first
                | (go_at_call 40; refine (hM.out _).mono ?_; rintro e w' ⟨rfl, rfl⟩)
                | (go_at_call 41; ((with_reducible refine (W1.out _).mono ?_); rintro e w1 ⟨rfl, hb⟩; have B1 := Lib.hid hb; clear hb))
                | (go_at_call 41; ((with_reducible refine (W2.out _).mono ?_); rintro e w2 ⟨rfl, hb⟩; have B2 := Lib.hid (B1.out.trans (hb.mono B1.out.size)); clear hb))
                | (go_at_call 41; ((with_reducible refine (W3.out _).mono ?_); rintro e w3 ⟨rfl, hb⟩; have B3 := Lib.hid (B2.out.trans (hb.mono B2.out.size)); clear hb)))
              go_ret2
              exact ⟨rfl, B3.out⟩
            · have g1 : ((X[0].toNat : Int) == 48) = false := hz0' g
              obtain ⟨rfl, rfl⟩ := hY (hG.2 ⟨a, b, c, d, f, g, (fun x => absurd x.1 (by decide))⟩)
              clear hN hY hG p2 q2 p3 q3 hz0 hz0' hza hza' hzb hzb' hzc hzc'
              have m1 : (1 : Int) * (D1 : Int) = (D1 : Int) := by omega
              go_enter Tryd.func23, Tryd.ntmps23
              go_wp2_with (first
                | (go_at_call 40; refine (hM.out _).mono ?_; rintro e w' ⟨rfl, rfl⟩)
                | (go_at_call 41; ((with_reducible refine (W1.out _).mono ?_); rintro e w1 ⟨rfl, hb⟩; have B1 := Lib.hid hb; clear hb))
                | (go_at_call 41; ((with_reducible refine (W2.out _).mono ?_); rintro e w2 ⟨rfl, hb⟩; have B2 := Lib.hid (B1.out.trans (hb.mono B1.out.size)); clear hb))
                | (go_at_call 41; ((with_reducible refine (W3.out _).mono ?_); rintro e w3 ⟨rfl, hb⟩; have B3 := Lib.hid (B2.out.trans (hb.mono B2.out.size)); clear hb))
                | (go_at_call 18; refine (rwday_any _ _ _ _).mono ?_; rintro e w4 ⟨rfl, hb⟩; have B4 := Lib.hid (B3.out.trans (hb.mono B3.out.size)); clear hb))
              go_ret2
              first | exact ⟨rfl, B4.out⟩ | exact ⟨by simp only [m1], B4.out⟩
          · have f1 := p3 f
            obtain ⟨rfl, rfl⟩ := hN (fun g => f (hG.1 g).2.2.2.2.1)
            subst f1
            clear hN hY hG p2 q2 p3 q3 hz0 hz0' hza hza' hzb hzb' hzc hzc'
            go_enter Tryd.func23, Tryd.ntmps23
            go_wp2_with (first
              | (go_at_call 40; refine (hM.out _).mono ?_; rintro e w' ⟨rfl, rfl⟩)
              | (go_at_call 41; ((with_reducible refine (W1.out _).mono ?_); rintro e w1 ⟨rfl, hb⟩; have B1 := Lib.hid hb; clear hb))
              | (go_at_call 41; ((with_reducible refine (W2.out _).mono ?_); rintro e w2 ⟨rfl, hb⟩; have B2 := Lib.hid (B1.out.trans (hb.mono B1.out.size)); clear hb))
              | (go_at_call 41; ((with_reducible refine (W3.out _).mono ?_); rintro e w3 ⟨rfl, hb⟩; have B3 := Lib.hid (B2.out.trans (hb.mono B2.out.size)); clear hb)))
            go_ret2
            exact ⟨rfl, B3.out⟩
        · have d1 := p2 d
          obtain ⟨rfl, rfl⟩ := hN (fun g => d (hG.1 g).2.2.2.1)
          subst d1
          clear hN hY hG p2 q2 p3 q3 hz0 hz0' hza hza' hzb hzb' hzc hzc'
          go_enter Tryd.func23, Tryd.ntmps23
          go_wp2_with (first
            | (go_at_call 40; refine (hM.out _).mono ?_; rintro e w' ⟨rfl, rfl⟩)
            | (go_at_call 41; ((with_reducible refine (W1.out _).mono ?_); rintro e w1 ⟨rfl, hb⟩; have B1 := Lib.hid hb; clear hb))
            | (go_at_call 41; ((with_reducible refine (W2.out _).mono ?_); rintro e w2 ⟨rfl, hb⟩; have B2 := Lib.hid (B1.out.trans (hb.mono B1.out.size)); clear hb))
            | (go_at_call 41; ((with_reducible refine (W3.out _).mono ?_); rintro e w3 ⟨rfl, hb⟩; have B3 := Lib.hid (B2.out.trans (hb.mono B2.out.size)); clear hb)))
          go_ret2
          exact ⟨rfl, B3.out⟩
      · have c1 : ((X[9].toNat : Int) == 45) = false := hzc' c
        have c2 : ((X[9].toNat : Int) != 45) = true := by rw [bne, c1]; rfl
        obtain ⟨rfl, rfl⟩ := hN (fun g => c (hG.1 g).2.2.1)
        clear hN hY hG p2 q2 p3 q3 hz0 hz0' hza hza' hzb hzb' hzc hzc'
        go_enter Tryd.func23, Tryd.ntmps23
        go_wp2_with (first
          | (go_at_call 40; refine (hM.out _).mono ?_; rintro e w' ⟨rfl, rfl⟩))
        go_ret2
        exact ⟨rfl, Below.refl _ _⟩
    · have b1 : ((X[6].toNat : Int) == 87) = false := hzb' b
      have b2 : ((X[6].toNat : Int) != 87) = true := by rw [bne, b1]; rfl
      obtain ⟨rfl, rfl⟩ := hN (fun g => b (hG.1 g).2.1)
      clear hN hY hG p2 q2 p3 q3 hz0 hz0' hza hza' hzb hzb' hzc hzc'
      go_enter Tryd.func23, Tryd.ntmps23
      go_wp2_with (first
        | (go_at_call 40; refine (hM.out _).mono ?_; rintro e w' ⟨rfl, rfl⟩))
      go_ret2
      exact ⟨rfl, Below.refl _ _⟩
  · have a1 : ((X[5].toNat : Int) == 45) = false := hza' a
    have a2 : ((X[5].toNat : Int) != 45) = true := by rw [bne, a1]; rfl
    obtain ⟨rfl, rfl⟩ := hN (fun g => a (hG.1 g).1)
    clear hN hY hG p2 q2 p3 q3 hz0 hz0' hza hza' hzb hzb' hzc hzc'
    go_enter Tryd.func23, Tryd.ntmps23
    go_wp2_with (first
      | (go_at_call 40; refine (hM.out _).mono ?_; rintro e w' ⟨rfl, rfl⟩))
    go_ret2
    exact ⟨rfl, Below.refl _ _⟩

set_option maxRecDepth 100000 in
set_option maxHeartbeats 4000000 in
theorem rparse_n4 (s X : ByteArray) (w : World) (hs : s.size ≤ 1000) (hk : lead X.data.toList = 4) (hl : X.size = 10) (hb : bd s.data.toList = X.data.toList) (hg : sig s.data.toList = 1) (hp : 0 < s.size) (h45 : ((s[0].toNat : Int) == 45) = true) (hex : s.extract 1 s.size = X) :
    Calls Tryd.prog 23 #[.string s] w fun e w' => e = .returned (.tuple #[.int .i64 (paN s.data.toList), .int .i64 (paE s.data.toList)]) ∧ Below w.heap.size w w' := by
  have hlen : X.data.toList.length = 10 := by
    have : X.data.toList.length = X.size := by simp
    omega
  have hM := Lib.hid (fun w => many_any X w (by rw [hl]; decide))
  rw [hk] at hM
  have hM : RowKit.Hid (∀ w, Calls Tryd.prog 40 #[.string X] w fun e w' => e = .returned (.int .i64 4) ∧ w = w') := hM
  obtain ⟨W1, ⟨E2, N2, W2, p2, q2⟩, ⟨E3, N3, W3, p3, q3⟩⟩ := three_wholes X 4 (by omega) (by omega) hk (by rw [hlen])
  simp only [Nat.reduceAdd] at W1 W2 W3 p2 q2 p3 q3
  have W1 := Lib.hid W1; have W2 := Lib.hid W2; have W3 := Lib.hid W3
  have hG := good_four (l := s.data.toList) (by unfold yl; rw [hb]; exact hk) (by rw [hb]; exact hlen)
  rw [hb, hg] at hG
  have hgY : gY s.data.toList = -((dv (X.data.toList.take 4) : Nat) : Int) := by unfold gY yl; rw [hb, hg, hk]; rfl
  have hgW : gW s.data.toList = ((dv ((X.data.toList.drop 6).take 2) : Nat) : Int) := by unfold gW yl; rw [hb, hk]
  have hgD : gD s.data.toList = ((dv ((X.data.toList.drop 9).take 1) : Nat) : Int) := by unfold gD yl; rw [hb, hk]
  have hY := pa_yes (l := s.data.toList)
  have hN := pa_no (l := s.data.toList)
  rw [hgY, hgW, hgD] at hY
  have hd := w_dv_small (r := X.data.toList) (k := 4) (by omega) (by omega)
  have i0 : 0 < X.size := by omega
  have ia : 4 < X.size := by omega
  have ib : 5 < X.size := by omega
  have ic : 8 < X.size := by omega
  have hz0 := byte_is (X := X) i0 48; have hz0' := byte_no (X := X) i0 48
  have hza := byte_is (X := X) ia 45; have hza' := byte_no (X := X) ia 45
  have hzb := byte_is (X := X) ib 87; have hzb' := byte_no (X := X) ib 87
  have hzc := byte_is (X := X) ic 45; have hzc' := byte_no (X := X) ic 45
  generalize hD1 : dv (X.data.toList.take 4) = D1 at *
  generalize dv ((X.data.toList.drop 6).take 2) = D2 at *
  generalize dv ((X.data.toList.drop 9).take 1) = D3 at *
  generalize hPN : paN s.data.toList = pn at *
  generalize hPE : paE s.data.toList = pe at *
  generalize Good s.data.toList = G at *
  clear hPN hPE hD1 hgY hgW hgD hb hg hk
  have x1 : 10 ≤ X.size := by omega
  have x2 : X.size ≤ 10 := by omega
  have x3 : ((X.size : Int) != 10) = false := by rw [hl]; rfl
  clear hl hlen
  have hps : (s.size : Int) > 0 := by omega
  by_cases a : X.data.toList[4]? = some 45
  · have a1 : ((X[4].toNat : Int) == 45) = true := hza.1 a
    have a2 : ((X[4].toNat : Int) != 45) = false := by rw [bne, a1]; rfl
    by_cases b : X.data.toList[5]? = some 87
    · have b1 : ((X[5].toNat : Int) == 87) = true := hzb.1 b
      have b2 : ((X[5].toNat : Int) != 87) = false := by rw [bne, b1]; rfl
      by_cases c : X.data.toList[8]? = some 45
      · have c1 : ((X[8].toNat : Int) == 45) = true := hzc.1 c
        have c2 : ((X[8].toNat : Int) != 45) = false := by rw [bne, c1]; rfl
        by_cases d : 2 ≤ lead ((X.data.toList.drop 6).take 2)
        · obtain ⟨rfl, rfl⟩ := q2 d
          by_cases f : 1 ≤ lead (X.data.toList.drop 9)
          · obtain ⟨rfl, rfl⟩ := q3 f
            by_cases u : D1 = 0
            · subst u
              obtain ⟨rfl, rfl⟩ := hN (fun g => (hG.1 g).2.2.2.2.2 ⟨rfl, rfl⟩)
              clear hN hY hG p2 q2 p3 q3 hz0 hz0' hza hza' hzb hzb' hzc hzc'
              go_enter Tryd.func23, Tryd.ntmps23
              go_wp2_with (first
                | (go_at_call 40; refine (hM.out _).mono ?_; rintro e w' ⟨rfl, rfl⟩)
                | (go_at_call 41; ((with_reducible refine (W1.out _).mono ?_); rintro e w1 ⟨rfl, hb⟩; have B1 := Lib.hid hb; clear hb))
                | (go_at_call 41; ((with_reducible refine (W2.out _).mono ?_); rintro e w2 ⟨rfl, hb⟩; have B2 := Lib.hid (B1.out.trans (hb.mono B1.out.size)); clear hb))
                | (go_at_call 41; ((with_reducible refine (W3.out _).mono ?_); rintro e w3 ⟨rfl, hb⟩; have B3 := Lib.hid (B2.out.trans (hb.mono B2.out.size)); clear hb)))
              go_ret2
              exact ⟨rfl, B3.out⟩
            · have u1 : ((D1 : Int) == 0) = false := beq_eq_false_iff_ne.2 (by omega)
              obtain ⟨rfl, rfl⟩ := hY (hG.2 ⟨a, b, c, d, f, (fun x => u x.2)⟩)
              clear hN hY hG p2 q2 p3 q3 hz0 hz0' hza hza' hzb hzb' hzc hzc'
              have m1 : (-1 : Int) * (D1 : Int) = -(D1 : Int) := by omega
              go_enter Tryd.func23, Tryd.ntmps23
              go_wp2_with (first
                | (go_at_call 40; refine (hM.out _).mono ?_; rintro e w' ⟨rfl, rfl⟩)
                | (go_at_call 41; ((with_reducible refine (W1.out _).mono ?_); rintro e w1 ⟨rfl, hb⟩; have B1 := Lib.hid hb; clear hb))
                | (go_at_call 41; ((with_reducible refine (W2.out _).mono ?_); rintro e w2 ⟨rfl, hb⟩; have B2 := Lib.hid (B1.out.trans (hb.mono B1.out.size)); clear hb))
                | (go_at_call 41; ((with_reducible refine (W3.out _).mono ?_); rintro e w3 ⟨rfl, hb⟩; have B3 := Lib.hid (B2.out.trans (hb.mono B2.out.size)); clear hb))
                | (go_at_call 18; refine (rwday_any _ _ _ _).mono ?_; rintro e w4 ⟨rfl, hb⟩; have B4 := Lib.hid (B3.out.trans (hb.mono B3.out.size)); clear hb))
              go_ret2
              first | exact ⟨rfl, B4.out⟩ | exact ⟨by simp only [m1], B4.out⟩
          · have f1 := p3 f
            obtain ⟨rfl, rfl⟩ := hN (fun g => f (hG.1 g).2.2.2.2.1)
            subst f1
            clear hN hY hG p2 q2 p3 q3 hz0 hz0' hza hza' hzb hzb' hzc hzc'
            go_enter Tryd.func23, Tryd.ntmps23
            go_wp2_with (first
              | (go_at_call 40; refine (hM.out _).mono ?_; rintro e w' ⟨rfl, rfl⟩)
              | (go_at_call 41; ((with_reducible refine (W1.out _).mono ?_); rintro e w1 ⟨rfl, hb⟩; have B1 := Lib.hid hb; clear hb))
              | (go_at_call 41; ((with_reducible refine (W2.out _).mono ?_); rintro e w2 ⟨rfl, hb⟩; have B2 := Lib.hid (B1.out.trans (hb.mono B1.out.size)); clear hb))
              | (go_at_call 41; ((with_reducible refine (W3.out _).mono ?_); rintro e w3 ⟨rfl, hb⟩; have B3 := Lib.hid (B2.out.trans (hb.mono B2.out.size)); clear hb)))
            go_ret2
            exact ⟨rfl, B3.out⟩
        · have d1 := p2 d
          obtain ⟨rfl, rfl⟩ := hN (fun g => d (hG.1 g).2.2.2.1)
          subst d1
          clear hN hY hG p2 q2 p3 q3 hz0 hz0' hza hza' hzb hzb' hzc hzc'
          go_enter Tryd.func23, Tryd.ntmps23
          go_wp2_with (first
            | (go_at_call 40; refine (hM.out _).mono ?_; rintro e w' ⟨rfl, rfl⟩)
            | (go_at_call 41; ((with_reducible refine (W1.out _).mono ?_); rintro e w1 ⟨rfl, hb⟩; have B1 := Lib.hid hb; clear hb))
            | (go_at_call 41; ((with_reducible refine (W2.out _).mono ?_); rintro e w2 ⟨rfl, hb⟩; have B2 := Lib.hid (B1.out.trans (hb.mono B1.out.size)); clear hb))
            | (go_at_call 41; ((with_reducible refine (W3.out _).mono ?_); rintro e w3 ⟨rfl, hb⟩; have B3 := Lib.hid (B2.out.trans (hb.mono B2.out.size)); clear hb)))
          go_ret2
          exact ⟨rfl, B3.out⟩
      · have c1 : ((X[8].toNat : Int) == 45) = false := hzc' c
        have c2 : ((X[8].toNat : Int) != 45) = true := by rw [bne, c1]; rfl
        obtain ⟨rfl, rfl⟩ := hN (fun g => c (hG.1 g).2.2.1)
        clear hN hY hG p2 q2 p3 q3 hz0 hz0' hza hza' hzb hzb' hzc hzc'
        go_enter Tryd.func23, Tryd.ntmps23
        go_wp2_with (first
          | (go_at_call 40; refine (hM.out _).mono ?_; rintro e w' ⟨rfl, rfl⟩))
        go_ret2
        exact ⟨rfl, Below.refl _ _⟩
    · have b1 : ((X[5].toNat : Int) == 87) = false := hzb' b
      have b2 : ((X[5].toNat : Int) != 87) = true := by rw [bne, b1]; rfl
      obtain ⟨rfl, rfl⟩ := hN (fun g => b (hG.1 g).2.1)
      clear hN hY hG p2 q2 p3 q3 hz0 hz0' hza hza' hzb hzb' hzc hzc'
      go_enter Tryd.func23, Tryd.ntmps23
      go_wp2_with (first
        | (go_at_call 40; refine (hM.out _).mono ?_; rintro e w' ⟨rfl, rfl⟩))
      go_ret2
      exact ⟨rfl, Below.refl _ _⟩
  · have a1 : ((X[4].toNat : Int) == 45) = false := hza' a
    have a2 : ((X[4].toNat : Int) != 45) = true := by rw [bne, a1]; rfl
    obtain ⟨rfl, rfl⟩ := hN (fun g => a (hG.1 g).1)
    clear hN hY hG p2 q2 p3 q3 hz0 hz0' hza hza' hzb hzb' hzc hzc'
    go_enter Tryd.func23, Tryd.ntmps23
    go_wp2_with (first
      | (go_at_call 40; refine (hM.out _).mono ?_; rintro e w' ⟨rfl, rfl⟩))
    go_ret2
    exact ⟨rfl, Below.refl _ _⟩

set_option maxRecDepth 100000 in
set_option maxHeartbeats 4000000 in
theorem rparse_n5 (s X : ByteArray) (w : World) (hs : s.size ≤ 1000) (hk : lead X.data.toList = 5) (hl : X.size = 11) (hb : bd s.data.toList = X.data.toList) (hg : sig s.data.toList = 1) (hp : 0 < s.size) (h45 : ((s[0].toNat : Int) == 45) = true) (hex : s.extract 1 s.size = X) :
    Calls Tryd.prog 23 #[.string s] w fun e w' => e = .returned (.tuple #[.int .i64 (paN s.data.toList), .int .i64 (paE s.data.toList)]) ∧ Below w.heap.size w w' := by
  have hlen : X.data.toList.length = 11 := by
    have : X.data.toList.length = X.size := by simp
    omega
  have hM := Lib.hid (fun w => many_any X w (by rw [hl]; decide))
  rw [hk] at hM
  have hM : RowKit.Hid (∀ w, Calls Tryd.prog 40 #[.string X] w fun e w' => e = .returned (.int .i64 5) ∧ w = w') := hM
  obtain ⟨W1, ⟨E2, N2, W2, p2, q2⟩, ⟨E3, N3, W3, p3, q3⟩⟩ := three_wholes X 5 (by omega) (by omega) hk (by rw [hlen])
  simp only [Nat.reduceAdd] at W1 W2 W3 p2 q2 p3 q3
  have W1 := Lib.hid W1; have W2 := Lib.hid W2; have W3 := Lib.hid W3
  have hG := good_five (l := s.data.toList) (by unfold yl; rw [hb]; exact hk) (by rw [hb]; exact hlen)
  rw [hb, hg] at hG
  have hgY : gY s.data.toList = -((dv (X.data.toList.take 5) : Nat) : Int) := by unfold gY yl; rw [hb, hg, hk]; rfl
  have hgW : gW s.data.toList = ((dv ((X.data.toList.drop 7).take 2) : Nat) : Int) := by unfold gW yl; rw [hb, hk]
  have hgD : gD s.data.toList = ((dv ((X.data.toList.drop 10).take 1) : Nat) : Int) := by unfold gD yl; rw [hb, hk]
  have hY := pa_yes (l := s.data.toList)
  have hN := pa_no (l := s.data.toList)
  rw [hgY, hgW, hgD] at hY
  have hd := w_dv_small (r := X.data.toList) (k := 5) (by omega) (by omega)
  have i0 : 0 < X.size := by omega
  have ia : 5 < X.size := by omega
  have ib : 6 < X.size := by omega
  have ic : 9 < X.size := by omega
  have hz0 := byte_is (X := X) i0 48; have hz0' := byte_no (X := X) i0 48
  have hza := byte_is (X := X) ia 45; have hza' := byte_no (X := X) ia 45
  have hzb := byte_is (X := X) ib 87; have hzb' := byte_no (X := X) ib 87
  have hzc := byte_is (X := X) ic 45; have hzc' := byte_no (X := X) ic 45
  generalize hD1 : dv (X.data.toList.take 5) = D1 at *
  generalize dv ((X.data.toList.drop 7).take 2) = D2 at *
  generalize dv ((X.data.toList.drop 10).take 1) = D3 at *
  generalize hPN : paN s.data.toList = pn at *
  generalize hPE : paE s.data.toList = pe at *
  generalize Good s.data.toList = G at *
  clear hPN hPE hD1 hgY hgW hgD hb hg hk
  have x1 : 11 ≤ X.size := by omega
  have x2 : X.size ≤ 11 := by omega
  have x3 : ((X.size : Int) != 11) = false := by rw [hl]; rfl
  clear hl hlen
  have hps : (s.size : Int) > 0 := by omega
  by_cases a : X.data.toList[5]? = some 45
  · have a1 : ((X[5].toNat : Int) == 45) = true := hza.1 a
    have a2 : ((X[5].toNat : Int) != 45) = false := by rw [bne, a1]; rfl
    by_cases b : X.data.toList[6]? = some 87
    · have b1 : ((X[6].toNat : Int) == 87) = true := hzb.1 b
      have b2 : ((X[6].toNat : Int) != 87) = false := by rw [bne, b1]; rfl
      by_cases c : X.data.toList[9]? = some 45
      · have c1 : ((X[9].toNat : Int) == 45) = true := hzc.1 c
        have c2 : ((X[9].toNat : Int) != 45) = false := by rw [bne, c1]; rfl
        by_cases d : 2 ≤ lead ((X.data.toList.drop 7).take 2)
        · obtain ⟨rfl, rfl⟩ := q2 d
          by_cases f : 1 ≤ lead (X.data.toList.drop 10)
          · obtain ⟨rfl, rfl⟩ := q3 f
            by_cases g : X.data.toList[0]? = some 48
            · have g1 : ((X[0].toNat : Int) == 48) = true := hz0.1 g
              obtain ⟨rfl, rfl⟩ := hN (fun z => (hG.1 z).2.2.2.2.2.1 g)
              clear hN hY hG p2 q2 p3 q3 hz0 hz0' hza hza' hzb hzb' hzc hzc'
              go_enter Tryd.func23, Tryd.ntmps23
              go_wp2_with (first
                | (go_at_call 40; refine (hM.out _).mono ?_; rintro e w' ⟨rfl, rfl⟩)
                | (go_at_call 41; ((with_reducible refine (W1.out _).mono ?_); rintro e w1 ⟨rfl, hb⟩; have B1 := Lib.hid hb; clear hb))
                | (go_at_call 41; ((with_reducible refine (W2.out _).mono ?_); rintro e w2 ⟨rfl, hb⟩; have B2 := Lib.hid (B1.out.trans (hb.mono B1.out.size)); clear hb))
                | (go_at_call 41; ((with_reducible refine (W3.out _).mono ?_); rintro e w3 ⟨rfl, hb⟩; have B3 := Lib.hid (B2.out.trans (hb.mono B2.out.size)); clear hb)))
              go_ret2
              exact ⟨rfl, B3.out⟩
            · have g1 : ((X[0].toNat : Int) == 48) = false := hz0' g
              by_cases u : D1 = 0
              · subst u
                obtain ⟨rfl, rfl⟩ := hN (fun g => (hG.1 g).2.2.2.2.2.2 ⟨rfl, rfl⟩)
                clear hN hY hG p2 q2 p3 q3 hz0 hz0' hza hza' hzb hzb' hzc hzc'
                go_enter Tryd.func23, Tryd.ntmps23
                go_wp2_with (first
                  | (go_at_call 40; refine (hM.out _).mono ?_; rintro e w' ⟨rfl, rfl⟩)
                  | (go_at_call 41; ((with_reducible refine (W1.out _).mono ?_); rintro e w1 ⟨rfl, hb⟩; have B1 := Lib.hid hb; clear hb))
                  | (go_at_call 41; ((with_reducible refine (W2.out _).mono ?_); rintro e w2 ⟨rfl, hb⟩; have B2 := Lib.hid (B1.out.trans (hb.mono B1.out.size)); clear hb))
                  | (go_at_call 41; ((with_reducible refine (W3.out _).mono ?_); rintro e w3 ⟨rfl, hb⟩; have B3 := Lib.hid (B2.out.trans (hb.mono B2.out.size)); clear hb)))
                go_ret2
                exact ⟨rfl, B3.out⟩
              · have u1 : ((D1 : Int) == 0) = false := beq_eq_false_iff_ne.2 (by omega)
                obtain ⟨rfl, rfl⟩ := hY (hG.2 ⟨a, b, c, d, f, g, (fun x => u x.2)⟩)
                clear hN hY hG p2 q2 p3 q3 hz0 hz0' hza hza' hzb hzb' hzc hzc'
                have m1 : (-1 : Int) * (D1 : Int) = -(D1 : Int) := by omega
                go_enter Tryd.func23, Tryd.ntmps23
                go_wp2_with (first
                  | (go_at_call 40; refine (hM.out _).mono ?_; rintro e w' ⟨rfl, rfl⟩)
                  | (go_at_call 41; ((with_reducible refine (W1.out _).mono ?_); rintro e w1 ⟨rfl, hb⟩; have B1 := Lib.hid hb; clear hb))
                  | (go_at_call 41; ((with_reducible refine (W2.out _).mono ?_); rintro e w2 ⟨rfl, hb⟩; have B2 := Lib.hid (B1.out.trans (hb.mono B1.out.size)); clear hb))
                  | (go_at_call 41; ((with_reducible refine (W3.out _).mono ?_); rintro e w3 ⟨rfl, hb⟩; have B3 := Lib.hid (B2.out.trans (hb.mono B2.out.size)); clear hb))
                  | (go_at_call 18; refine (rwday_any _ _ _ _).mono ?_; rintro e w4 ⟨rfl, hb⟩; have B4 := Lib.hid (B3.out.trans (hb.mono B3.out.size)); clear hb))
                go_ret2
                first | exact ⟨rfl, B4.out⟩ | exact ⟨by simp only [m1], B4.out⟩
          · have f1 := p3 f
            obtain ⟨rfl, rfl⟩ := hN (fun g => f (hG.1 g).2.2.2.2.1)
            subst f1
            clear hN hY hG p2 q2 p3 q3 hz0 hz0' hza hza' hzb hzb' hzc hzc'
            go_enter Tryd.func23, Tryd.ntmps23
            go_wp2_with (first
              | (go_at_call 40; refine (hM.out _).mono ?_; rintro e w' ⟨rfl, rfl⟩)
              | (go_at_call 41; ((with_reducible refine (W1.out _).mono ?_); rintro e w1 ⟨rfl, hb⟩; have B1 := Lib.hid hb; clear hb))
              | (go_at_call 41; ((with_reducible refine (W2.out _).mono ?_); rintro e w2 ⟨rfl, hb⟩; have B2 := Lib.hid (B1.out.trans (hb.mono B1.out.size)); clear hb))
              | (go_at_call 41; ((with_reducible refine (W3.out _).mono ?_); rintro e w3 ⟨rfl, hb⟩; have B3 := Lib.hid (B2.out.trans (hb.mono B2.out.size)); clear hb)))
            go_ret2
            exact ⟨rfl, B3.out⟩
        · have d1 := p2 d
          obtain ⟨rfl, rfl⟩ := hN (fun g => d (hG.1 g).2.2.2.1)
          subst d1
          clear hN hY hG p2 q2 p3 q3 hz0 hz0' hza hza' hzb hzb' hzc hzc'
          go_enter Tryd.func23, Tryd.ntmps23
          go_wp2_with (first
            | (go_at_call 40; refine (hM.out _).mono ?_; rintro e w' ⟨rfl, rfl⟩)
            | (go_at_call 41; ((with_reducible refine (W1.out _).mono ?_); rintro e w1 ⟨rfl, hb⟩; have B1 := Lib.hid hb; clear hb))
            | (go_at_call 41; ((with_reducible refine (W2.out _).mono ?_); rintro e w2 ⟨rfl, hb⟩; have B2 := Lib.hid (B1.out.trans (hb.mono B1.out.size)); clear hb))
            | (go_at_call 41; ((with_reducible refine (W3.out _).mono ?_); rintro e w3 ⟨rfl, hb⟩; have B3 := Lib.hid (B2.out.trans (hb.mono B2.out.size)); clear hb)))
          go_ret2
          exact ⟨rfl, B3.out⟩
      · have c1 : ((X[9].toNat : Int) == 45) = false := hzc' c
        have c2 : ((X[9].toNat : Int) != 45) = true := by rw [bne, c1]; rfl
        obtain ⟨rfl, rfl⟩ := hN (fun g => c (hG.1 g).2.2.1)
        clear hN hY hG p2 q2 p3 q3 hz0 hz0' hza hza' hzb hzb' hzc hzc'
        go_enter Tryd.func23, Tryd.ntmps23
        go_wp2_with (first
          | (go_at_call 40; refine (hM.out _).mono ?_; rintro e w' ⟨rfl, rfl⟩))
        go_ret2
        exact ⟨rfl, Below.refl _ _⟩
    · have b1 : ((X[6].toNat : Int) == 87) = false := hzb' b
      have b2 : ((X[6].toNat : Int) != 87) = true := by rw [bne, b1]; rfl
      obtain ⟨rfl, rfl⟩ := hN (fun g => b (hG.1 g).2.1)
      clear hN hY hG p2 q2 p3 q3 hz0 hz0' hza hza' hzb hzb' hzc hzc'
      go_enter Tryd.func23, Tryd.ntmps23
      go_wp2_with (first
        | (go_at_call 40; refine (hM.out _).mono ?_; rintro e w' ⟨rfl, rfl⟩))
      go_ret2
      exact ⟨rfl, Below.refl _ _⟩
  · have a1 : ((X[5].toNat : Int) == 45) = false := hza' a
    have a2 : ((X[5].toNat : Int) != 45) = true := by rw [bne, a1]; rfl
    obtain ⟨rfl, rfl⟩ := hN (fun g => a (hG.1 g).1)
    clear hN hY hG p2 q2 p3 q3 hz0 hz0' hza hza' hzb hzb' hzc hzc'
    go_enter Tryd.func23, Tryd.ntmps23
    go_wp2_with (first
      | (go_at_call 40; refine (hM.out _).mono ?_; rintro e w' ⟨rfl, rfl⟩))
    go_ret2
    exact ⟨rfl, Below.refl _ _⟩

end Go.Proofs.YtplibjgfdnbifaaDoor
