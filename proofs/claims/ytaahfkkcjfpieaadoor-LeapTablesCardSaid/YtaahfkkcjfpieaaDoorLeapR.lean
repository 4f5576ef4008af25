/- The statements of layer 10: LeapSame. (Written by gen_leaps.py.) -/
import Derived.Test.YtaahfkkcjfpieaaDoorLeapQ
import Derived.Deep.RegionHeld3
namespace Go.Proofs.YtaahfkkcjfpieaaDoor
open Go.RowKit
set_option linter.unusedVariables false
set_option linter.unusedSimpArgs false

theorem nil_offset (n : Int) (W : World) : Calls Tryd.prog 17 #[.pointer none, .int .i64 n] W fun x w' => x = .returned (.tuple #[.int .i64 0, .bool false]) ∧ Below W.heap.size W w' := offset_any n (nil_tv W) vx_nil
theorem nil_row (n : Int) (W : World) : Calls Tryd.prog 15 #[.pointer none, .int .i64 n] W fun x w' => x = .returned (.tuple #[.agg #[.int .i64 0, .int .i64 0], .bool false]) ∧ Below W.heap.size W w' := by
  have h := row_any n (nil_tv W)
  have hn : ¬ (0 ≤ n ∧ n < (([] : List Rw).length : Int)) := by simp
  rw [show rwD [] n = 0 by unfold rwD; rw [if_neg hn], show rwO [] n = 0 by unfold rwO; rw [if_neg hn], show rwB [] n = false by unfold rwB; exact decide_eq_false hn] at h
  exact h
theorem nil_next (n : Int) (W : World) : Calls Tryd.prog 23 #[.pointer none, .int .i64 n] W fun x w' => x = .returned (.tuple #[.int .i64 0, .int .i64 0, .bool false]) ∧ Below W.heap.size W w' := by
  have h := next_any n (nil_tv W) vx_nil
  rw [nxD_nil, nxK_nil, nxB_nil] at h
  exact h
theorem nil_len (W : World) : Calls Tryd.prog 13 #[.pointer none] W fun x w' => x = .returned (.int .i64 0) ∧ W = w' := len_any (nil_tv W)
theorem nil_rows (W : World) : Calls Tryd.prog 14 #[.pointer none] W fun x w' => ∃ A c, x = .returned (.slice A 0 c) ∧ Below W.heap.size W w' := (rows_any (nil_tv W) (Nat.zero_le _)).mono fun e w' ⟨v, he, hv, hb⟩ => by
  obtain ⟨A, c, rfl, -⟩ := hv.reads
  exact ⟨A, c, he, hb⟩
theorem nil_updated (W : World) : Calls Tryd.prog 26 #[.pointer none] W fun x w' => x = .returned (.int .i64 0) ∧ W = w' := updated_any (nil_tv W)
theorem nil_expires (W : World) : Calls Tryd.prog 27 #[.pointer none] W fun x w' => x = .returned (.int .i64 0) ∧ W = w' := expires_any (nil_tv W)
theorem nil_leap (n : Int) (W : World) : Calls Tryd.prog 20 #[.pointer none, .int .i64 n] W fun x w' => x = .returned (.int .i64 0) ∧ Below W.heap.size W w' := by
  have h := leapday_any n (nil_tv W) vx_nil
  rw [lpN_nil] at h
  exact h
theorem nil_length (n : Int) (W : World) : Calls Tryd.prog 21 #[.pointer none, .int .i64 n] W fun x w' => x = .returned (.int .i64 86400) ∧ Below W.heap.size W w' := by
  have h := length_any n (nil_tv W) vx_nil
  rw [lpN_nil] at h
  exact h
theorem nil_has (n s : Int) (b : Bool) (W : World) (hb : (decide (0 ≤ s) && decide (s < 86400)) = b) : Calls Tryd.prog 22 #[.pointer none, .int .i64 n, .int .i64 s] W fun x w' => x = .returned (.bool b) ∧ Below W.heap.size W w' := by
  have h := has_any n s (nil_tv W) vx_nil
  rw [lpN_nil, show (86400 : Int) + 0 = 86400 from rfl, hb] at h
  exact h

theorem has_no : (decide ((0 : Int) ≤ 86400) && decide ((86400 : Int) < 86400)) = false := by decide
theorem has_yes : (decide ((0 : Int) ≤ 86399) && decide ((86399 : Int) < 86400)) = true := by decide

theorem smB_self (L : List Rw) (u e : Int) : smB L u e L u e = true := by unfold smB; rw [eqL_self]; simp
/-- What a drawn region keeps. -/
structure Kb (W0 W : World) : Prop where
  bel : Below W0.heap.size W0 W
theorem Kb.step {W0 W W' : World} (h : Kb W0 W) (hb : Below W.heap.size W W') : Kb W0 W' := ⟨h.bel.trans (hb.mono h.bel.size)⟩

set_option maxRecDepth 100000 in
set_option maxHeartbeats 8000000 in
theorem same10_walk (A A' : Option Addr) (c c' : Nat) (L K : List Rw) (u e x y n : Int) (w : World) (he : Ends w) (hr : Rp w.heap.size w A L) (hA : A = none → c = 0 ∧ L = []) (hc : L.length ≤ c) (hm : c ≤ maxLen)
    (hr' : Rp w.heap.size w A' K) (hA' : A' = none → c' = 0 ∧ K = []) (hc' : K.length ≤ c') (hm' : c' ≤ maxLen) :
    Calls Tryd.prog 6 #[.agg #[.slice A L.length c, .int .i64 u, .int .i64 e], .agg #[.slice A' K.length c', .int .i64 x, .int .i64 y], .int .i64 n] w fun r w' => r = .returned (.bool true) ∧ Below w.heap.size w w' := by
  obtain ⟨W1, hW1, b1, s1, hX1⟩ := raw_box w A L.length c u e
  obtain ⟨W2, hW2, b2, s2, hX2⟩ := raw_box W1 A' K.length c' x y
  have b := b1.trans (b2.mono b1.size)
  have hX : ∀ W, Below W2.heap.size W2 W → (W.cell? ⟨w.heap.size, 0, none⟩ = some (.slice A L.length c) ∧ W.cell? ⟨w.heap.size, 1, none⟩ = some (.int .i64 u) ∧ W.cell? ⟨w.heap.size, 2, none⟩ = some (.int .i64 e)) ∧ W.cell? ⟨w.heap.size + 1, 0, none⟩ = some (.slice A' K.length c') ∧ W.cell? ⟨w.heap.size + 1, 1, none⟩ = some (.int .i64 x) ∧ W.cell? ⟨w.heap.size + 1, 2, none⟩ = some (.int .i64 y) := fun W hb =>
    ⟨hX1 W (b2.trans (hb.mono b2.size)), by have := hX2 W hb; rw [s1] at this; exact this⟩
  have HX := Lib.hid hX; have HB := Lib.hid b
  have HAl := Lib.hid (alive10_any W2 (he.below b))
  have hW : W2 = (w.alloc (.cells #[.slice A L.length c, .int .i64 u, .int .i64 e] 24)).alloc (.cells #[.slice A' K.length c', .int .i64 x, .int .i64 y] 24) := by rw [hW2, hW1]
  clear hX1 hX2 hX hW1 hW2 b1 b2 s1 s2
  by_cases g1 : 300 < L.length
  · have z1 : (L.length : Int) > 300 := by omega
    clear he hr hA hc hm hr' hA' hc' hm' b g1
    generalize L.length = N at *
    generalize K.length = N' at *
    go_enter Tryd.func6, Tryd.ntmps6
    go_upto_region 1 with fail
    rw [← hW]
    clear hW
    go_wp2_with (go_at_call 7; refine HAl.out.mono ?_; rintro e w1 ⟨rfl, hb⟩; obtain ⟨⟨x0, -, -⟩, x1, -, -⟩ := HX.out w1 hb; have B1 := Lib.hid hb; clear hb HAl)
    go_ret
    exact ⟨rfl, HB.out.trans (B1.out.mono HB.out.size)⟩
  have z1 : ¬ (L.length : Int) > 300 := by omega
  by_cases g2 : 300 < K.length
  · have z2 : (K.length : Int) > 300 := by omega
    clear he hr hA hc hm hr' hA' hc' hm' b g1 g2
    generalize L.length = N at *
    generalize K.length = N' at *
    go_enter Tryd.func6, Tryd.ntmps6
    go_upto_region 1 with fail
    rw [← hW]
    clear hW
    go_wp2_with (go_at_call 7; refine HAl.out.mono ?_; rintro e w1 ⟨rfl, hb⟩; obtain ⟨⟨x0, -, -⟩, x1, -, -⟩ := HX.out w1 hb; have B1 := Lib.hid hb; clear hb HAl)
    go_ret
    exact ⟨rfl, HB.out.trans (B1.out.mono HB.out.size)⟩
  have z2 : ¬ (K.length : Int) > 300 := by omega
  have HXs := Lib.hid (fun (hk : lkE L u e = 0) (W : World) (hb : Below W2.heap.size W2 W) => made_some A c L u e W (he.below (b.trans (hb.mono b.size))) (by omega) ((hr.below (b.trans (hb.mono b.size))).low) hA hc hm hk)
  have HXn := Lib.hid (fun (hk : lkE L u e ≠ 0) (W : World) (hb : Below W2.heap.size W2 W) => made_no A c L u e W (he.below (b.trans (hb.mono b.size))) (by omega) ((hr.below (b.trans (hb.mono b.size))).low) hc hm hk)
  have HXf : Hid (lkE L u e = 0 → L.length ≤ 256) := Lib.hid fun hk => (lkE_zero hk).1.few
  have HXc := Lib.hid (fun (A' : Option Addr) (c' : Nat) (W : World) (hr' : Rp W.heap.size W A' L) => rcheck10_any A' c' L u e W hr' (by omega))
  have HYs := Lib.hid (fun (hk : lkE K x y = 0) (W : World) (hb : Below W2.heap.size W2 W) => made_some A' c' K x y W (he.below (b.trans (hb.mono b.size))) (by omega) ((hr'.below (b.trans (hb.mono b.size))).low) hA' hc' hm' hk)
  have HYn := Lib.hid (fun (hk : lkE K x y ≠ 0) (W : World) (hb : Below W2.heap.size W2 W) => made_no A' c' K x y W (he.below (b.trans (hb.mono b.size))) (by omega) ((hr'.below (b.trans (hb.mono b.size))).low) hc' hm' hk)
  have HYf : Hid (lkE K x y = 0 → K.length ≤ 256) := Lib.hid fun hk => (lkE_zero hk).1.few
  have HYc := Lib.hid (fun (A' : Option Addr) (c' : Nat) (W : World) (hr' : Rp W.heap.size W A' K) => rcheck10_any A' c' K x y W hr' (by omega))
  have HRS := Lib.hid (fun (A A' : Option Addr) (c c' : Nat) (W : World) (h : Rp W.heap.size W A L) (h' : Rp W.heap.size W A' K) => rsame_any A A' c c' L K u e x y W h h' (by omega) (by omega))
  generalize lkE L u e = kx at *
  generalize lkE K x y = ky at *
  clear he hr hA hc hm hr' hA' hc' hm' b g1 g2
  obtain ⟨N, hN⟩ : ∃ N, L.length = N := ⟨_, rfl⟩
  obtain ⟨N', hN'⟩ : ∃ N', K.length = N' := ⟨_, rfl⟩
  have HNL := Lib.hid hN; have HNK := Lib.hid hN'
  rw [hN] at z1 HXs HXn HXf HXc HRS HX hW ⊢
  rw [hN'] at z2 HYs HYn HYf HYc HRS HX hW ⊢
  clear hN hN'
  have q0 := eq_row 0 0 0 0
  have HH1 := Lib.hid (fun W => nil_has n 86400 false W has_no)
  have HH2 := Lib.hid (fun W => nil_has n 86399 true W has_yes)
  go_enter Tryd.func6, Tryd.ntmps6
  go_upto_region 1 with fail
  rw [← hW]
  clear hW
  go_upto_region 8 with (first
    | (go_at_call 7; refine HAl.out.mono ?_; rintro e w1 ⟨rfl, hb⟩; obtain ⟨⟨x0, -, -⟩, x1, -, -⟩ := HX.out w1 hb; have B1 := Lib.hid hb; clear hb HAl)
    | (go_at_call 17; refine (nil_offset n _).mono ?_; rintro e w2 ⟨rfl, hb⟩; have B2 := Lib.hid (B1.out.trans (hb.mono B1.out.size)); clear hb x0 x1)
    | (go_at_call 15; refine (nil_row n _).mono ?_; rintro e w3 ⟨rfl, hb⟩; have B3 := Lib.hid (B2.out.trans (hb.mono B2.out.size)); clear hb))
  obtain ⟨w4, hw4⟩ : ∃ w4, w4 = w3.alloc (.cells #[.int .i64 0, .int .i64 0] 40) := ⟨_, rfl⟩
  have h4 : w4.heap[w3.heap.size]? = some (.cells #[.int .i64 0, .int .i64 0] 40 (0, 0)) := by rw [hw4]; exact heap_alloc_new w3 _
  have b4 : Below w3.heap.size w3 w4 := by rw [hw4]; exact bel_box w3 _
  have B4 := Lib.hid (B3.out.trans (b4.mono B3.out.size))
  have H4 := Lib.hid h4
  rw [← hw4]
  clear hw4 h4 b4
  go_upto_region 11 with (first
    | (go_at_call 23; (refine (nil_next n _).mono ?_; rintro e w5 ⟨rfl, hb⟩; have hk5 : w5.heap[w3.heap.size]? = some (.cells #[.int .i64 0, .int .i64 0] 40 (0, 0)) := (hb.block w3.heap.size (bk_lt H4.out)).trans H4.out; have H5 := Lib.hid hk5; have r0 : w5.cell? ⟨w3.heap.size, 0, none⟩ = some (.int .i64 0) := bk_cell hk5 0; have r1 : w5.cell? ⟨w3.heap.size, 1, none⟩ = some (.int .i64 0) := bk_cell hk5 1; have B5 := Lib.hid (B4.out.trans (hb.mono B4.out.size)); clear hb hk5 H4))
    | (go_at_call 13; refine (nil_len _).mono ?_; rintro e w' ⟨rfl, rfl⟩)
    | (go_at_call 14; (refine (nil_rows _).mono ?_; rintro e w6 ⟨A9, c9, rfl, hb⟩; clear r0 r1; have hk6 : w6.heap[w3.heap.size]? = some (.cells #[.int .i64 0, .int .i64 0] 40 (0, 0)) := (hb.block w3.heap.size (bk_lt H5.out)).trans H5.out; have H6 := Lib.hid hk6; have r0 : w6.cell? ⟨w3.heap.size, 0, none⟩ = some (.int .i64 0) := bk_cell hk6 0; have r1 : w6.cell? ⟨w3.heap.size, 1, none⟩ = some (.int .i64 0) := bk_cell hk6 1; have B6 := Lib.hid (B5.out.trans (hb.mono B5.out.size)); clear hb hk6 H5))
    | (go_at_call 26; refine (nil_updated _).mono ?_; rintro e w' ⟨rfl, rfl⟩)
    | (go_at_call 27; refine (nil_expires _).mono ?_; rintro e w' ⟨rfl, rfl⟩)
    | (go_at_call 20; (refine (nil_leap n _).mono ?_; rintro e w7 ⟨rfl, hb⟩; clear r0 r1; have hk7 : w7.heap[w3.heap.size]? = some (.cells #[.int .i64 0, .int .i64 0] 40 (0, 0)) := (hb.block w3.heap.size (bk_lt H6.out)).trans H6.out; have H7 := Lib.hid hk7; have r0 : w7.cell? ⟨w3.heap.size, 0, none⟩ = some (.int .i64 0) := bk_cell hk7 0; have r1 : w7.cell? ⟨w3.heap.size, 1, none⟩ = some (.int .i64 0) := bk_cell hk7 1; have B7 := Lib.hid (B6.out.trans (hb.mono B6.out.size)); clear hb hk7 H6))
    | (go_at_call 21; (refine (nil_length n _).mono ?_; rintro e w8 ⟨rfl, hb⟩; clear r0 r1; have hk8 : w8.heap[w3.heap.size]? = some (.cells #[.int .i64 0, .int .i64 0] 40 (0, 0)) := (hb.block w3.heap.size (bk_lt H7.out)).trans H7.out; have H8 := Lib.hid hk8; have r0 : w8.cell? ⟨w3.heap.size, 0, none⟩ = some (.int .i64 0) := bk_cell hk8 0; have r1 : w8.cell? ⟨w3.heap.size, 1, none⟩ = some (.int .i64 0) := bk_cell hk8 1; have B8 := Lib.hid (B7.out.trans (hb.mono B7.out.size)); clear hb hk8 H7))
    | (go_at_call 22; (refine (HH1.out _).mono ?_; rintro e w9 ⟨rfl, hb⟩; clear r0 r1; have hk9 : w9.heap[w3.heap.size]? = some (.cells #[.int .i64 0, .int .i64 0] 40 (0, 0)) := (hb.block w3.heap.size (bk_lt H8.out)).trans H8.out; have H9 := Lib.hid hk9; have r0 : w9.cell? ⟨w3.heap.size, 0, none⟩ = some (.int .i64 0) := bk_cell hk9 0; have r1 : w9.cell? ⟨w3.heap.size, 1, none⟩ = some (.int .i64 0) := bk_cell hk9 1; have B9 := Lib.hid (B8.out.trans (hb.mono B8.out.size)); clear hb hk9 H8 HH1))
    | (go_at_call 22; (refine (HH2.out _).mono ?_; rintro e w10 ⟨rfl, hb⟩; clear r0 r1; have hk10 : w10.heap[w3.heap.size]? = some (.cells #[.int .i64 0, .int .i64 0] 40 (0, 0)) := (hb.block w3.heap.size (bk_lt H9.out)).trans H9.out; have H10 := Lib.hid hk10; have r0 : w10.cell? ⟨w3.heap.size, 0, none⟩ = some (.int .i64 0) := bk_cell hk10 0; have r1 : w10.cell? ⟨w3.heap.size, 1, none⟩ = some (.int .i64 0) := bk_cell hk10 1; have B10 := Lib.hid (B9.out.trans (hb.mono B9.out.size)); clear hb hk10 H9))
    | (go_at_call 25; refine (expired_nil n _).mono ?_; rintro e w' ⟨rfl, rfl⟩)
    | (go_at_call 28; refine (same_nil _).mono ?_; rintro e w' ⟨rfl, rfl⟩))
  clear r0 r1
  by_cases kx0 : kx = 0
  · subst kx0
    have HMx := Lib.hid (HXs.out rfl)
    by_cases ky0 : ky = 0
    · subst ky0
      have HMy := Lib.hid (HYs.out rfl)
      have HF1 := Lib.hid (HXf.out rfl); have HF2 := Lib.hid (HYf.out rfl)
      clear HXs HXn HXf HYs HYn HYf HXc HYc
      obtain ⟨⟨x0, x1, x2⟩, x3, x4, x5⟩ := HX.out _ B10.out
      go_upto_region 12 with (go_at_call 16; refine (HMx.out _ B10.out).mono ?_; rintro e w20 ⟨gx, Ax, cx, rfl, ht, hr, hb⟩; have B20 := Lib.hid (B10.out.trans (hb.mono B10.out.size)); have RX := Lib.hid hr; have Tx := Lib.hid ht; clear hb hr ht HMx x0 x1 x2 x3 x4 x5)
      obtain ⟨w21, hw21, hb21, -, hD⟩ := doc_box w20 Ax N cx u e
      rw [← hw21]
      have B21 := Lib.hid (B20.out.trans (hb21.mono B20.out.size))
      have DX := Lib.hid hD
      have RX := Lib.hid ((RX.out.below hb21).low)
      have Tx := Lib.hid (Tx.out.below hb21)
      clear hw21 hD hb21
      obtain ⟨⟨x0, x1, x2⟩, x3, x4, x5⟩ := HX.out _ B21.out
      go_upto_region 13 with (go_at_call 16; refine (HMy.out _ B21.out).mono ?_; rintro e w22 ⟨gy, Ay, cy, rfl, ht, hr, hb⟩; have RXa := Lib.hid ((RX.out.keep hb).low); have DXa := Lib.hid (fun W (h : Below w22.heap.size w22 W) => DX.out W (hb.trans (h.mono hb.size))); have Txa := Lib.hid (Tx.out.below hb); clear Tx; clear DX RX; have B22 := Lib.hid (B21.out.trans (hb.mono B21.out.size)); have RY := Lib.hid hr; have Ty := Lib.hid ht; clear hb hr ht HMy x0 x1 x2 x3 x4 x5)
      obtain ⟨w23, hw23, hb23, -, hD⟩ := doc_box w22 Ay N' cy x y
      rw [← hw23]
      have B23 := Lib.hid (B22.out.trans (hb23.mono B22.out.size))
      have DY := Lib.hid hD
      have RY := Lib.hid ((RY.out.below hb23).low)
      have Ty := Lib.hid (Ty.out.below hb23)
      have RX := Lib.hid ((RXa.out.keep hb23).low)
      have DX := Lib.hid (fun W (h : Below w23.heap.size w23 W) => DXa.out W (hb23.trans (h.mono hb23.size)))
      have Tx := Lib.hid (Txa.out.below hb23)
      clear Txa
      clear RXa DXa
      clear hw23 hD hb23
      obtain ⟨d0, d1, d2⟩ := DX.out _ (Below.refl _ _)
      obtain ⟨d3, d4, d5⟩ := DY.out _ (Below.refl _ _)
      have hS : ∀ W, Kb w23 W → W.cell? ⟨w20.heap.size, 0, none⟩ = some (.slice Ax N cx) ∧ W.cell? ⟨w20.heap.size, 1, none⟩ = some (.int .i64 u) ∧ W.cell? ⟨w20.heap.size, 2, none⟩ = some (.int .i64 e) ∧ W.cell? ⟨w22.heap.size, 0, none⟩ = some (.slice Ay N' cy) ∧ W.cell? ⟨w22.heap.size, 1, none⟩ = some (.int .i64 x) ∧ W.cell? ⟨w22.heap.size, 2, none⟩ = some (.int .i64 y) ∧ Kb w23 W := fun W h => ⟨(DX.out W h.bel).1, (DX.out W h.bel).2.1, (DX.out W h.bel).2.2, (DY.out W h.bel).1, (DY.out W h.bel).2.1, (DY.out W h.bel).2.2, h⟩
      have HK := Lib.hid hS
      have hKD : Kb w23 w23.drew := ⟨(Below.refl _ w23).drew⟩
      have hab : ∀ W, Kb w23 W → Calls Tryd.prog 28 #[.pointer (some ⟨gx, 0, none⟩), .pointer (some ⟨gy, 0, none⟩)] W fun r w' => r = .returned (.bool (smB L u e K x y)) ∧ Kb w23 w' := fun W h => (same_any (Tx.out.below h.bel) (Ty.out.below h.bel) (by rw [HNL.out]; exact HF1.out) (by rw [HNK.out]; exact HF2.out)).mono fun _ _ k => ⟨k.1, h.step k.2⟩
      have haa : ∀ W, Kb w23 W → Calls Tryd.prog 28 #[.pointer (some ⟨gx, 0, none⟩), .pointer (some ⟨gx, 0, none⟩)] W fun r w' => r = .returned (.bool true) ∧ Kb w23 w' := fun W h => (same_any (Tx.out.below h.bel) (Tx.out.below h.bel) (by rw [HNL.out]; exact HF1.out) (by rw [HNL.out]; exact HF1.out)).mono fun _ _ k => ⟨by rw [k.1, smB_self], h.step k.2⟩
      have han : ∀ W, Kb w23 W → Calls Tryd.prog 28 #[.pointer (some ⟨gx, 0, none⟩), .pointer none] W fun r w' => r = .returned (.bool false) ∧ Kb w23 w' := fun W h => (same_left gx W).mono fun _ _ k => ⟨k.1, k.2 ▸ h⟩
      have hnb : ∀ W, Kb w23 W → Calls Tryd.prog 28 #[.pointer none, .pointer (some ⟨gy, 0, none⟩)] W fun r w' => r = .returned (.bool false) ∧ Kb w23 w' := fun W h => (same_right gy W).mono fun _ _ k => ⟨k.1, k.2 ▸ h⟩
      have hrs : ∀ W, Kb w23 W → Calls Tryd.prog 29 #[.agg #[.slice Ax N cx, .int .i64 u, .int .i64 e], .agg #[.slice Ay N' cy, .int .i64 x, .int .i64 y]] W fun r w' => r = .returned (.bool (smB L u e K x y)) ∧ Kb w23 w' := fun W h => (HRS.out Ax Ay cx cy W ((RX.out.keep h.bel).low) ((RY.out.keep h.bel).low)).mono fun _ _ k => ⟨k.1, h.step k.2⟩
      have HAB := Lib.hid hab; have HAA := Lib.hid haa; have HAN := Lib.hid han; have HNB := Lib.hid hnb; have HRR := Lib.hid hrs
      clear hab haa han hnb hrs hS HRS
      generalize smB L u e K x y = sb at *
      go_wp2_with fail
      go_region_held3 (fun W => W.cell? ⟨w20.heap.size, 0, none⟩ = some (.slice Ax N cx) ∧ W.cell? ⟨w20.heap.size, 1, none⟩ = some (.int .i64 u) ∧ W.cell? ⟨w20.heap.size, 2, none⟩ = some (.int .i64 e) ∧ W.cell? ⟨w22.heap.size, 0, none⟩ = some (.slice Ay N' cy) ∧ W.cell? ⟨w22.heap.size, 1, none⟩ = some (.int .i64 x) ∧ W.cell? ⟨w22.heap.size, 2, none⟩ = some (.int .i64 y) ∧ Kb w23 W)
        (exact HK.out _ (by assumption))
        (first
          | (go_at_call 28; go_split_ands; with_reducible refine (HAB.out _ (by assumption)).mono ?_; rintro e w' ⟨rfl, hk⟩)
          | (go_at_call 28; go_split_ands; with_reducible refine (HAA.out _ (by assumption)).mono ?_; rintro e w' ⟨rfl, hk⟩)
          | (go_at_call 28; go_split_ands; with_reducible refine (HAN.out _ (by assumption)).mono ?_; rintro e w' ⟨rfl, hk⟩)
          | (go_at_call 28; go_split_ands; with_reducible refine (HNB.out _ (by assumption)).mono ?_; rintro e w' ⟨rfl, hk⟩)
          | (go_at_call 29; go_split_ands; with_reducible refine (HRR.out _ (by assumption)).mono ?_; rintro e w' ⟨rfl, hk⟩))
      all_goals
        have hB := Kb.bel (W0 := w23) (by assumption)
        have HB9 := Lib.hid (HB.out.trans ((B23.out.trans (hB.mono B23.out.size)).mono HB.out.size))
        clear hB
        go_wp2_with fail
        go_ret
        exact ⟨rfl, HB9.out⟩
    · have HMy := Lib.hid (HYn.out ky0)
      have kyb : (ky != 0) = true := bne_iff_ne.mpr ky0
      clear HXs HXn HXf HYs HYn HYf HRS ky0
      obtain ⟨⟨x0, x1, x2⟩, x3, x4, x5⟩ := HX.out _ B10.out
      go_upto_region 12 with (go_at_call 16; refine (HMx.out _ B10.out).mono ?_; rintro e w20 ⟨gx, Ax, cx, rfl, ht, hr, hb⟩; have B20 := Lib.hid (B10.out.trans (hb.mono B10.out.size)); have RX := Lib.hid hr; have Tx := Lib.hid ht; clear hb hr ht HMx x0 x1 x2 x3 x4 x5)
      obtain ⟨w21, hw21, hb21, -, hD⟩ := doc_box w20 Ax N cx u e
      rw [← hw21]
      have B21 := Lib.hid (B20.out.trans (hb21.mono B20.out.size))
      have DX := Lib.hid hD
      have RX := Lib.hid ((RX.out.below hb21).low)
      have Tx := Lib.hid (Tx.out.below hb21)
      clear hw21 hD hb21
      obtain ⟨⟨x0, x1, x2⟩, x3, x4, x5⟩ := HX.out _ B21.out
      go_upto_region 13 with (go_at_call 16; refine (HMy.out _ B21.out).mono ?_; rintro e w22 ⟨Ay, cy, rfl, hr, hb⟩; have RXa := Lib.hid ((RX.out.keep hb).low); have DXa := Lib.hid (fun W (h : Below w22.heap.size w22 W) => DX.out W (hb.trans (h.mono hb.size))); have Txa := Lib.hid (Tx.out.below hb); clear Tx; clear DX RX; have B22 := Lib.hid (B21.out.trans (hb.mono B21.out.size)); have RY := Lib.hid hr; clear hb hr HMy x0 x1 x2 x3 x4 x5)
      obtain ⟨w23, hw23, hb23, -, hD⟩ := doc_box w22 Ay N' cy x y
      rw [← hw23]
      have B23 := Lib.hid (B22.out.trans (hb23.mono B22.out.size))
      have DY := Lib.hid hD
      have RY := Lib.hid ((RY.out.below hb23).low)
      have RX := Lib.hid ((RXa.out.keep hb23).low)
      have DX := Lib.hid (fun W (h : Below w23.heap.size w23 W) => DXa.out W (hb23.trans (h.mono hb23.size)))
      have Tx := Lib.hid (Txa.out.below hb23)
      clear Txa
      clear RXa DXa
      clear hw23 hD hb23
      obtain ⟨d0, d1, d2⟩ := DX.out _ (Below.refl _ _)
      obtain ⟨d3, d4, d5⟩ := DY.out _ (Below.refl _ _)
      go_wp2_with (go_at_call 10; refine (HYc.out Ay cy _ RY.out).mono ?_; rintro e w24 ⟨rfl, hb⟩; have B24 := Lib.hid (B23.out.trans (hb.mono B23.out.size)); clear hb)
      go_ret
      exact ⟨rfl, HB.out.trans (B24.out.mono HB.out.size)⟩
  · have HMx := Lib.hid (HXn.out kx0)
    have kxb : (kx != 0) = true := bne_iff_ne.mpr kx0
    by_cases ky0 : ky = 0
    · subst ky0
      have HMy := Lib.hid (HYs.out rfl)
      clear HXs HXn HXf HYs HYn HYf HRS kx0
      obtain ⟨⟨x0, x1, x2⟩, x3, x4, x5⟩ := HX.out _ B10.out
      go_upto_region 12 with (go_at_call 16; refine (HMx.out _ B10.out).mono ?_; rintro e w20 ⟨Ax, cx, rfl, hr, hb⟩; have B20 := Lib.hid (B10.out.trans (hb.mono B10.out.size)); have RX := Lib.hid hr; clear hb hr HMx x0 x1 x2 x3 x4 x5)
      obtain ⟨w21, hw21, hb21, -, hD⟩ := doc_box w20 Ax N cx u e
      rw [← hw21]
      have B21 := Lib.hid (B20.out.trans (hb21.mono B20.out.size))
      have DX := Lib.hid hD
      have RX := Lib.hid ((RX.out.below hb21).low)
      clear hw21 hD hb21
      obtain ⟨⟨x0, x1, x2⟩, x3, x4, x5⟩ := HX.out _ B21.out
      go_upto_region 13 with (go_at_call 16; refine (HMy.out _ B21.out).mono ?_; rintro e w22 ⟨gy, Ay, cy, rfl, ht, hr, hb⟩; have RXa := Lib.hid ((RX.out.keep hb).low); have DXa := Lib.hid (fun W (h : Below w22.heap.size w22 W) => DX.out W (hb.trans (h.mono hb.size))); clear DX RX; have B22 := Lib.hid (B21.out.trans (hb.mono B21.out.size)); have RY := Lib.hid hr; have Ty := Lib.hid ht; clear hb hr ht HMy x0 x1 x2 x3 x4 x5)
      obtain ⟨w23, hw23, hb23, -, hD⟩ := doc_box w22 Ay N' cy x y
      rw [← hw23]
      have B23 := Lib.hid (B22.out.trans (hb23.mono B22.out.size))
      have DY := Lib.hid hD
      have RY := Lib.hid ((RY.out.below hb23).low)
      have Ty := Lib.hid (Ty.out.below hb23)
      have RX := Lib.hid ((RXa.out.keep hb23).low)
      have DX := Lib.hid (fun W (h : Below w23.heap.size w23 W) => DXa.out W (hb23.trans (h.mono hb23.size)))
      clear RXa DXa
      clear hw23 hD hb23
      obtain ⟨d0, d1, d2⟩ := DX.out _ (Below.refl _ _)
      obtain ⟨d3, d4, d5⟩ := DY.out _ (Below.refl _ _)
      go_wp2_with (go_at_call 10; refine (HXc.out Ax cx _ RX.out).mono ?_; rintro e w24 ⟨rfl, hb⟩; have B24 := Lib.hid (B23.out.trans (hb.mono B23.out.size)); clear hb)
      go_ret
      exact ⟨rfl, HB.out.trans (B24.out.mono HB.out.size)⟩
    · have HMy := Lib.hid (HYn.out ky0)
      have kyb : (ky != 0) = true := bne_iff_ne.mpr ky0
      clear HXs HXn HXf HYs HYn HYf HRS kx0 ky0
      obtain ⟨⟨x0, x1, x2⟩, x3, x4, x5⟩ := HX.out _ B10.out
      go_upto_region 12 with (go_at_call 16; refine (HMx.out _ B10.out).mono ?_; rintro e w20 ⟨Ax, cx, rfl, hr, hb⟩; have B20 := Lib.hid (B10.out.trans (hb.mono B10.out.size)); have RX := Lib.hid hr; clear hb hr HMx x0 x1 x2 x3 x4 x5)
      obtain ⟨w21, hw21, hb21, -, hD⟩ := doc_box w20 Ax N cx u e
      rw [← hw21]
      have B21 := Lib.hid (B20.out.trans (hb21.mono B20.out.size))
      have DX := Lib.hid hD
      have RX := Lib.hid ((RX.out.below hb21).low)
      clear hw21 hD hb21
      obtain ⟨⟨x0, x1, x2⟩, x3, x4, x5⟩ := HX.out _ B21.out
      go_upto_region 13 with (go_at_call 16; refine (HMy.out _ B21.out).mono ?_; rintro e w22 ⟨Ay, cy, rfl, hr, hb⟩; have RXa := Lib.hid ((RX.out.keep hb).low); have DXa := Lib.hid (fun W (h : Below w22.heap.size w22 W) => DX.out W (hb.trans (h.mono hb.size))); clear DX RX; have B22 := Lib.hid (B21.out.trans (hb.mono B21.out.size)); have RY := Lib.hid hr; clear hb hr HMy x0 x1 x2 x3 x4 x5)
      obtain ⟨w23, hw23, hb23, -, hD⟩ := doc_box w22 Ay N' cy x y
      rw [← hw23]
      have B23 := Lib.hid (B22.out.trans (hb23.mono B22.out.size))
      have DY := Lib.hid hD
      have RY := Lib.hid ((RY.out.below hb23).low)
      have RX := Lib.hid ((RXa.out.keep hb23).low)
      have DX := Lib.hid (fun W (h : Below w23.heap.size w23 W) => DXa.out W (hb23.trans (h.mono hb23.size)))
      clear RXa DXa
      clear hw23 hD hb23
      obtain ⟨d0, d1, d2⟩ := DX.out _ (Below.refl _ _)
      obtain ⟨d3, d4, d5⟩ := DY.out _ (Below.refl _ _)
      go_wp2_with (first
        | (go_at_call 10; refine (HXc.out Ax cx _ RX.out).mono ?_; rintro e w24 ⟨rfl, hb⟩; have B24 := Lib.hid (B23.out.trans (hb.mono B23.out.size)); obtain ⟨d3, d4, d5⟩ := DY.out _ hb; have RY := Lib.hid ((RY.out.keep hb).low); clear hb HXc)
        | (go_at_call 10; refine (HYc.out Ay cy _ RY.out).mono ?_; rintro e w25 ⟨rfl, hb⟩; have B25 := Lib.hid (B24.out.trans (hb.mono B24.out.size)); clear hb))
      go_ret
      exact ⟨rfl, HB.out.trans (B25.out.mono HB.out.size)⟩

end Go.Proofs.YtaahfkkcjfpieaaDoor
