/- The statements of layer 10: LeapTables. -/
import Derived.Test.YtaahfkkcjfpieaaDoorLeapS
namespace Go.Proofs.YtaahfkkcjfpieaaDoor
open Go.RowKit
set_option linter.unusedVariables false
set_option linter.unusedSimpArgs false

theorem row_yes {L : List Rw} {k : Nat} (h : k < L.length) : rwD L k = rd L k ∧ rwO L k = ro L k ∧ rwB L k = true := by
  unfold rwD rwO rwB
  have hh : (0 : Int) ≤ (k : Int) ∧ (k : Int) < (L.length : Int) := by omega
  rw [if_pos hh, if_pos hh, decide_eq_true hh, show ((k : Int)).toNat = k by omega]
  exact ⟨rfl, rfl, rfl⟩
theorem row_no {L : List Rw} {i : Int} (h : i < 0 ∨ (L.length : Int) ≤ i) : rwD L i = 0 ∧ rwO L i = 0 ∧ rwB L i = false := by
  unfold rwD rwO rwB
  have hh : ¬ ((0 : Int) ≤ i ∧ i < (L.length : Int)) := by omega
  rw [if_neg hh, if_neg hh, decide_eq_false hh]
  exact ⟨rfl, rfl, rfl⟩

set_option maxRecDepth 100000 in
set_option maxHeartbeats 8000000 in
theorem tables10_walk (A : Option Addr) (c : Nat) (L : List Rw) (u e i : Int) (w : World) (he : Ends w) (hr : Rp w.heap.size w A L) (hA : A = none → c = 0 ∧ L = []) (hc : L.length ≤ c) (hm : c ≤ maxLen) :
    Calls Tryd.prog 3 #[.agg #[.slice A L.length c, .int .i64 u, .int .i64 e], .int .i64 i] w fun x w' => x = .returned (.bool true) ∧ Below w.heap.size w w' := by
  obtain ⟨W1, hW1, b1, s1, hX⟩ := raw_box w A L.length c u e
  have HX := Lib.hid hX; have HB := Lib.hid b1
  have HAl := Lib.hid (alive10_any W1 (he.below b1))
  by_cases g1 : 300 < L.length
  · have z1 : (L.length : Int) > 300 := by omega
    clear he hr hA hc hm hX b1 s1 g1
    generalize L.length = N at *
    go_enter Tryd.func3, Tryd.ntmps3
    go_upto_region 1 with fail
    rw [← hW1]
    clear hW1
    go_wp2_with (go_at_call 7; refine HAl.out.mono ?_; rintro e w1 ⟨rfl, hb⟩; obtain ⟨x0, x1, x2⟩ := HX.out w1 hb; have B1 := Lib.hid hb; clear hb HAl)
    go_ret
    exact ⟨rfl, HB.out.trans (B1.out.mono HB.out.size)⟩
  have z1 : ¬ (L.length : Int) > 300 := by omega
  have HL : Hid (L.length ≤ 300) := Lib.hid (by omega)
  have HR := Lib.hid (fun (W : World) (hb : Below W1.heap.size W1 W) => (hr.below (b1.trans (hb.mono b1.size))).low)
  have HE := Lib.hid (fun (W : World) (hb : Below W1.heap.size W1 W) => he.below (b1.trans (hb.mono b1.size)))
  have HA := Lib.hid hA
  have HD := Lib.hid (fun (W : World) (hb : Below W1.heap.size W1 W) => document_any A c L u e W (HR.out W hb) (by have := HL.out; omega))
  have HC := Lib.hid (fun (A' : Option Addr) (c' : Nat) (W : World) (hr' : Rp W.heap.size W A' L) => rcheck10_any A' c' L u e W hr' (by have := HL.out; omega))
  obtain ⟨N, hN⟩ : ∃ N, L.length = N := ⟨_, rfl⟩
  have HN := Lib.hid hN
  rw [hN] at z1 hW1 HX HD HC ⊢
  clear hr hA hc hm hX b1 s1 g1 he hN
  go_enter Tryd.func3, Tryd.ntmps3
  go_upto_region 1 with fail
  rw [← hW1]
  clear hW1
  go_upto_region 5 with (go_at_call 7; refine HAl.out.mono ?_; rintro e w1 ⟨rfl, hb⟩; obtain ⟨x0, x1, x2⟩ := HX.out w1 hb; have B1 := Lib.hid hb; clear hb HAl)
  have l0 : w.heap.size < w1.heap.size := World.block_lt_of_cell? _ _ x0
  have ba := bel_box w1 (.cells #[] 40)
  have HRa := Lib.hid (HR.out _ (B1.out.trans (ba.mono B1.out.size)))
  have Ba := Lib.hid ba
  clear ba
  go_upto_region 6 with (at_builtin; refine app_rows 22 40 et_prog _ _ w1.heap.size _ [] (World.ownsRow_made w1 #[] 0 (Nat.le_refl _) (Nat.zero_le _) rfl) A L N c HN.out HRa.out HA.out (by simp) (by have := HL.out; omega) (by simp) rfl rfl rfl rfl ?_; intro v' w2 hv hb; rw [List.nil_append] at hv; obtain ⟨A2, c2, rfl, r2, n2, m2, z2, f2⟩ := hv.reads; rw [HN.out]; have B2 := Lib.hid (B1.out.trans ((Ba.out.trans hb).mono B1.out.size)); have R2 := Lib.hid r2; have N2 := Lib.hid n2; have M2 := Lib.hid m2; have Z2 := Lib.hid z2; have F2 := Lib.hid f2; clear hv hb r2 n2 m2 z2 f2 x0 x1 x2 l0 HRa Ba)
  obtain ⟨x0, x1, x2⟩ := HX.out w2 B2.out
  have q0 := fun op t W x k => guard_ev op t W x k
  have q2 := fun W k => neq_ev W k
  by_cases hk : lkE L u e = 0
  rotate_left
  · have hkb : (lkE L u e != 0) = true := bne_iff_ne.mpr hk
    have hN := new_no A2 c2 L u e w2 (HE.out _ B2.out) (by have := HL.out; omega) R2.out M2.out Z2.out hk
    rw [HN.out] at hN
    have HNw := Lib.hid hN
    have hlo := lkE_lo L u e
    have HLo := Lib.hid hlo
    generalize lkE L u e = k at *
    clear hN hlo hk
    go_upto_region 7 with (go_at_call 8; refine HNw.out.mono ?_; rintro e w3 ⟨rfl, hb⟩; obtain ⟨x0, x1, x2⟩ := HX.out w3 (B2.out.trans (hb.mono B2.out.size)); have B3 := Lib.hid (B2.out.trans (hb.mono B2.out.size)); clear hb HNw)
    go_upto_region 8 with (go_at_call 9; refine (HD.out _ B3.out).mono ?_; rintro e w4 ⟨A4, c4, rfl, hr, -, -, hb⟩; have B4 := Lib.hid (B3.out.trans (hb.mono B3.out.size)); have R4 := Lib.hid hr; clear hb hr HD x0 x1 x2)
    obtain ⟨w5, hw5, hb5, -, hD5⟩ := doc_box w4 A4 N c4 u e
    rw [← hw5]
    have B5 := Lib.hid (B4.out.trans (hb5.mono B4.out.size))
    have R5 := Lib.hid ((R4.out.below hb5).low)
    obtain ⟨d0, d1, d2⟩ := hD5 w5 (Below.refl _ _)
    clear hw5 hb5 hD5
    go_wp2_with (first
      | (go_at_call 10; refine (HC.out _ _ _ R5.out).mono ?_; rintro e w6 ⟨rfl, hb⟩; have B6 := Lib.hid (B5.out.trans (hb.mono B5.out.size)); clear hb)
      | (go_at_call 11; refine (num_any _ _ HLo.out.1 HLo.out.2).mono ?_; rintro e w' ⟨rfl, rfl⟩))
    go_ret
    exact ⟨rfl, HB.out.trans (B6.out.mono HB.out.size)⟩
  have hN := new_some A2 c2 L u e w2 (HE.out _ B2.out) (by have := HL.out; omega) R2.out N2.out M2.out Z2.out hk
  rw [HN.out] at hN
  have HNw := Lib.hid hN
  have V := (lkE_zero hk).1
  have HV := Lib.hid V
  rw [hk] at HC
  clear hN hk V
  go_upto_region 7 with (go_at_call 8; refine HNw.out.mono ?_; rintro e w3 ⟨g, rfl, hb, ht⟩; obtain ⟨x0, x1, x2⟩ := HX.out w3 (B2.out.trans (hb.mono B2.out.size)); have B3 := Lib.hid hb; have B3' := Lib.hid (B2.out.trans (hb.mono B2.out.size)); have T3 := Lib.hid ht; clear hb ht HNw)
  go_upto_region 8 with (go_at_call 9; refine (HD.out _ B3'.out).mono ?_; rintro e w4 ⟨A4, c4, rfl, hr, -, hlo, hb⟩; have B4 := Lib.hid (B3.out.trans (hb.mono B3.out.size)); have R4 := Lib.hid hr; have T4 := Lib.hid (T3.out.below hb); have LO := Lib.hid (fun b off h => Nat.le_trans B3.out.size (hlo b off h)); clear hb hr hlo HD x0 x1 x2 T3)
  obtain ⟨w5, hw5, hb5, -, hD5⟩ := doc_box w4 A4 N c4 u e
  rw [← hw5]
  have B5 := Lib.hid (B4.out.trans (hb5.mono B4.out.size))
  have R5 := Lib.hid ((R4.out.below hb5).low)
  have T5 := Lib.hid (T4.out.below hb5)
  have S4 := Lib.hid B4.out.size
  have D5 := Lib.hid hD5
  obtain ⟨d0, d1, d2⟩ := hD5 w5 (Below.refl _ _)
  clear hw5 hb5 hD5 R4 T4
  go_upto_region 11 with (go_at_call 10; refine (HC.out _ _ _ R5.out).mono ?_; rintro e w6 ⟨rfl, hb⟩; have B6 := Lib.hid (B5.out.trans (hb.mono B5.out.size)); have R6 := Lib.hid ((R5.out.keep hb).low); have T6 := Lib.hid (T5.out.below hb); have D6 := Lib.hid (fun W (h : Below w6.heap.size w6 W) => D5.out W (hb.trans (h.mono hb.size))); clear hb D5 T5 R5 HC d0 d1 d2)
  have HF : Hid (L.length ≤ 256) := Lib.hid HV.out.few
  have hS : ∀ W, Kb w6 W → W.cell? ⟨w4.heap.size, 0, none⟩ = some (.slice A4 N c4) ∧ W.cell? ⟨w4.heap.size, 1, none⟩ = some (.int .i64 u) ∧ W.cell? ⟨w4.heap.size, 2, none⟩ = some (.int .i64 e) ∧ Kb w6 W := fun W h => ⟨(D6.out W h.bel).1, (D6.out W h.bel).2.1, (D6.out W h.bel).2.2, h⟩
  have his : ∀ W, Kb w6 W → Calls Tryd.prog 12 #[.pointer (some ⟨g, 0, none⟩), .agg #[.slice A4 N c4, .int .i64 u, .int .i64 e]] W fun x w' => x = .returned (.bool true) ∧ Kb w6 w' := fun W h => by
    have k := is10_any g A4 c4 L u e W (T6.out.below h.bel) ((R6.out.keep h.bel).low) HF.out
    rw [HN.out] at k
    exact k.mono fun _ _ k => ⟨k.1, h.step k.2⟩
  have hln : ∀ W, Kb w6 W → Calls Tryd.prog 13 #[.pointer (some ⟨g, 0, none⟩)] W fun x w' => x = .returned (.int .i64 (N : Nat)) ∧ W = w' := fun W h => by
    have k := len_any (T6.out.below h.bel).v
    rw [HN.out] at k
    exact k
  have HK := Lib.hid hS; have HI := Lib.hid his; have HLe := Lib.hid hln
  have hKD : Kb w6 w6.drew := ⟨(Below.refl _ w6).drew⟩
  clear hS his hln
  go_region_held3 (fun W => W.cell? ⟨w4.heap.size, 0, none⟩ = some (.slice A4 N c4) ∧ W.cell? ⟨w4.heap.size, 1, none⟩ = some (.int .i64 u) ∧ W.cell? ⟨w4.heap.size, 2, none⟩ = some (.int .i64 e) ∧ Kb w6 W)
    (exact HK.out _ (by assumption))
    (first
      | (go_at_call 12; go_split_ands; refine (HI.out _ (by assumption)).mono ?_; rintro e w7 ⟨rfl, hk7⟩)
      | (go_at_call 13; go_split_ands; refine (HLe.out _ (by assumption)).mono ?_; rintro e w' ⟨rfl, rfl⟩))
  have K7 := Lib.hid hk7.bel
  clear hk7 HK HI HLe hKD
  go_upto_region 13 with fail
  have hpos : 0 < L.length := HV.out.pos
  have zpos : (N : Int) > 0 := by have := HN.out; omega
  have zp0 : (0 : Int) < (N : Int) := zpos
  obtain ⟨b, off, rfl, -, -, hc2⟩ := R2.out.pos hpos
  obtain ⟨f1, f2, rfl, f3⟩ := F2.out b off rfl
  have o0 := (HV.out.off 0 hpos).1
  have o1 := (HV.out.off 0 hpos).2
  have e0 := (HV.out.day 0 hpos).1
  have e1 := (HV.out.day 0 hpos).2
  have B27 : Below w2.heap.size w2 w7 := B6.out.trans (K7.out.mono B6.out.size)
  have k1 : w7.cell? ⟨b, 1, none⟩ = some (.int .i64 (ro L 0)) := (B27.cell (p := ⟨b, 1, none⟩) f2).trans (by simpa using (hc2 0 hpos).2)
  have k2 : w7.frozen? ⟨b, 1, none⟩ = false := (B27.frozen (p := ⟨b, 1, none⟩) f2).trans (f3 1)
  have hw1 : w.heap.size ≤ b := Nat.le_trans (Nat.le_trans HB.out.size B1.out.size) f1
  have T8 := Lib.hid ((T6.out.below K7.out).set b 1 (.int .i64 (ro L 0 + 5)) f2)
  have R8 := Lib.hid ((((R6.out.keep K7.out).low).set b 1 (.int .i64 (ro L 0 + 5)) (fun b' off' h => by have := LO.out b' off' h; omega)).low)
  have hne : b ≠ w4.heap.size := by have := S4.out; omega
  have D8 : ∀ j v, w7.cell? ⟨w4.heap.size, j, none⟩ = some v → (w7.setCell ⟨b, 1, none⟩ (.int .i64 (ro L 0 + 5))).cell? ⟨w4.heap.size, j, none⟩ = some v := fun j v h => (World.cell?_setCell_far _ _ _ _ hne).trans h
  have d8 := D6.out w7 K7.out
  have d0 := D8 0 _ d8.1
  have d1 := D8 1 _ d8.2.1
  have d2 := D8 2 _ d8.2.2
  have B8 := Lib.hid ((HB.out.trans ((B2.out.trans (B27.mono B2.out.size)).mono HB.out.size)).setCell (p := ⟨b, 1, none⟩) hw1 (.int .i64 (ro L 0 + 5)))
  clear B27 hw1 hne D8 d8 f1 f2 f3 hc2
  go_upto_region 14 with fail
  generalize w7.setCell ⟨b, 1, none⟩ (.int .i64 (ro L 0 + 5)) = w8 at *
  clear k1 k2 o0 o1
  have HRo := Lib.hid (rows_any T8.out.v (by have := HL.out; omega))
  have DD : Hid (∀ W, Below w8.heap.size w8 W → W.cell? ⟨w4.heap.size, 0, none⟩ = some (.slice A4 N c4) ∧ W.cell? ⟨w4.heap.size, 1, none⟩ = some (.int .i64 u) ∧ W.cell? ⟨w4.heap.size, 2, none⟩ = some (.int .i64 e)) := Lib.hid fun W h =>
    ⟨(h.cell (p := ⟨w4.heap.size, 0, none⟩) (World.block_lt_of_cell? _ _ d0)).trans d0, (h.cell (p := ⟨w4.heap.size, 1, none⟩) (World.block_lt_of_cell? _ _ d1)).trans d1, (h.cell (p := ⟨w4.heap.size, 2, none⟩) (World.block_lt_of_cell? _ _ d2)).trans d2⟩
  clear d0 d1 d2
  go_upto_region 15 with (go_at_call 14; refine HRo.out.mono ?_; rintro e w9 ⟨v9, rfl, hv, hb⟩; obtain ⟨A9, c9, rfl, r9, -, -, -, f9⟩ := hv.reads; rw [HN.out]; have B9 := Lib.hid hb; have R9 := Lib.hid r9; have F9 := Lib.hid f9; clear hv hb r9 f9 HRo)
  obtain ⟨b9, off9, rfl, -, -, hc9⟩ := R9.out.pos hpos
  obtain ⟨f1, f2, rfl, f3⟩ := F9.out b9 off9 rfl
  have k1 : w9.cell? ⟨b9, 0, none⟩ = some (.int .i64 (rd L 0)) := by simpa using (hc9 0 hpos).1
  have k2 : w9.frozen? ⟨b9, 0, none⟩ = false := f3 0
  have B10 := Lib.hid (B9.out.setCell (p := ⟨b9, 0, none⟩) f1 (.int .i64 (rd L 0 + 1)))
  clear f1 f2 f3 hc9
  go_upto_region 17 with fail
  generalize w9.setCell ⟨b9, 0, none⟩ (.int .i64 (rd L 0 + 1)) = w10 at *
  clear k1 k2 e0 e1
  have T10 := Lib.hid (T8.out.below B10.out)
  have R10 := Lib.hid ((R8.out.keep B10.out).low)
  have q0' := eq_row 0 0 0 0
  have HRw := row_any i T10.out.v
  rcases (by omega : (0 ≤ i ∧ i < (N : Int)) ∨ i < 0 ∨ (0 ≤ i ∧ (N : Int) ≤ i)) with ⟨i0, i1⟩ | i0 | ⟨i0, i1⟩
  · obtain ⟨k, rfl⟩ : ∃ k : Nat, i = k := ⟨i.toNat, by omega⟩
    have hkL : k < L.length := by have := HN.out; omega
    obtain ⟨y1, y2, y3⟩ := row_yes hkL
    rw [y1, y2, y3] at HRw
    have HRW := Lib.hid HRw
    have HKL := Lib.hid hkL
    clear y1 y2 y3 HRw
    have i0' : (k : Int) ≥ 0 := i0
    go_upto_region 18 with (go_at_call 15; refine HRW.out.mono ?_; rintro e w11 ⟨rfl, hb⟩; have B11 := Lib.hid (B10.out.trans (hb.mono B10.out.size)); have R11 := Lib.hid ((R10.out.keep hb).low); have T11 := Lib.hid (T10.out.below hb); clear hb HRW)
    have b12 := bel_box w11 (.cells #[.int .i64 (rd L k), .int .i64 (ro L k)] 40)
    have h12 := heap_alloc_new w11 (.cells #[.int .i64 (rd L k), .int .i64 (ro L k)] 40)
    have B12 := Lib.hid (B11.out.trans (b12.mono B11.out.size))
    have R12 := Lib.hid ((R11.out.below b12).low)
    have T12 := Lib.hid (T11.out.below b12)
    obtain ⟨w12, hw12⟩ : ∃ w12, w12 = w11.alloc (.cells #[.int .i64 (rd L k), .int .i64 (ro L k)] 40) := ⟨_, rfl⟩
    rw [← hw12] at h12 B12 R12 T12 ⊢
    have r0 : w12.cell? ⟨w11.heap.size, 0, none⟩ = some (.int .i64 (rd L k)) := bk_cell h12 0
    have r1 : w12.cell? ⟨w11.heap.size, 1, none⟩ = some (.int .i64 (ro L k)) := bk_cell h12 1
    obtain ⟨d0, d1, d2⟩ := DD.out w12 B12.out
    clear b12 h12 hw12
    obtain ⟨b4, off4, rfl, -, -, hc4⟩ := R12.out.pos hpos
    obtain ⟨c40, c41⟩ := hc4 k HKL.out
    clear hc4
    have HI9 := Lib.hid (fun q => is10_any g (some ⟨b4, off4, none⟩) c4 L u e (w12.drewN q) T12.out R12.out HF.out)
    rw [HN.out] at HI9
    have BW := Lib.hid (B8.out.trans (B12.out.mono B8.out.size))
    clear hpos
    have j0 : decide ((k : Int) ≥ 0) = true := decide_eq_true (by omega)
    have j1 : decide ((k : Int) < (N : Int)) = true := decide_eq_true i1
    have j2 : decide ((0 : Int) ≤ (k : Int)) = true := decide_eq_true i0
    have j3 : decide (k < N) = true := by have := HKL.out; have := HN.out; exact decide_eq_true (by omega)
    clear x0 x1 x2 q0 q2 zpos zp0
    go_quiet (fail)
    go_wp2_with (go_at_call 12; refine (HI9.out _).mono ?_; rintro e w13 ⟨rfl, hb⟩; have B13 := Lib.hid hb; clear hb)
    go_ret
    exact ⟨rfl, BW.out.trans ((drewN_below w12.heap.size w12 _).trans B13.out |>.mono BW.out.size)⟩
  · obtain ⟨y1, y2, y3⟩ := row_no (L := L) (i := i) (.inl i0)
    rw [y1, y2, y3] at HRw
    have HRW := Lib.hid HRw
    clear y1 y2 y3 HRw
    have i0' : ¬ i ≥ 0 := by omega
    go_upto_region 18 with (go_at_call 15; refine HRW.out.mono ?_; rintro e w11 ⟨rfl, hb⟩; have B11 := Lib.hid (B10.out.trans (hb.mono B10.out.size)); have R11 := Lib.hid ((R10.out.keep hb).low); have T11 := Lib.hid (T10.out.below hb); clear hb HRW)
    have b12 := bel_box w11 (.cells #[.int .i64 0, .int .i64 0] 40)
    have h12 := heap_alloc_new w11 (.cells #[.int .i64 0, .int .i64 0] 40)
    have B12 := Lib.hid (B11.out.trans (b12.mono B11.out.size))
    have R12 := Lib.hid ((R11.out.below b12).low)
    have T12 := Lib.hid (T11.out.below b12)
    obtain ⟨w12, hw12⟩ : ∃ w12, w12 = w11.alloc (.cells #[.int .i64 0, .int .i64 0] 40) := ⟨_, rfl⟩
    rw [← hw12] at h12 B12 R12 T12 ⊢
    have r0 : w12.cell? ⟨w11.heap.size, 0, none⟩ = some (.int .i64 0) := bk_cell h12 0
    have r1 : w12.cell? ⟨w11.heap.size, 1, none⟩ = some (.int .i64 0) := bk_cell h12 1
    obtain ⟨d0, d1, d2⟩ := DD.out w12 B12.out
    clear b12 h12 hw12
    have HI9 := Lib.hid (fun q => is10_any g A4 c4 L u e (w12.drewN q) T12.out R12.out HF.out)
    rw [HN.out] at HI9
    have BW := Lib.hid (B8.out.trans (B12.out.mono B8.out.size))
    clear hpos
    have j0 : decide (i ≥ 0) = false := decide_eq_false (by omega)
    have j2 : decide ((0 : Int) ≤ i) = false := decide_eq_false (by omega)
    clear x0 x1 x2 q0 q2 zpos zp0
    go_quiet (fail)
    go_wp2_with (go_at_call 12; refine (HI9.out _).mono ?_; rintro e w13 ⟨rfl, hb⟩; have B13 := Lib.hid hb; clear hb)
    go_ret
    exact ⟨rfl, BW.out.trans ((drewN_below w12.heap.size w12 _).trans B13.out |>.mono BW.out.size)⟩
  · obtain ⟨y1, y2, y3⟩ := row_no (L := L) (i := i) (.inr (by have := HN.out; omega))
    rw [y1, y2, y3] at HRw
    have HRW := Lib.hid HRw
    clear y1 y2 y3 HRw
    have i0' : i ≥ 0 := i0
    have i1' : ¬ i < (N : Int) := by omega
    go_upto_region 18 with (go_at_call 15; refine HRW.out.mono ?_; rintro e w11 ⟨rfl, hb⟩; have B11 := Lib.hid (B10.out.trans (hb.mono B10.out.size)); have R11 := Lib.hid ((R10.out.keep hb).low); have T11 := Lib.hid (T10.out.below hb); clear hb HRW)
    have b12 := bel_box w11 (.cells #[.int .i64 0, .int .i64 0] 40)
    have h12 := heap_alloc_new w11 (.cells #[.int .i64 0, .int .i64 0] 40)
    have B12 := Lib.hid (B11.out.trans (b12.mono B11.out.size))
    have R12 := Lib.hid ((R11.out.below b12).low)
    have T12 := Lib.hid (T11.out.below b12)
    obtain ⟨w12, hw12⟩ : ∃ w12, w12 = w11.alloc (.cells #[.int .i64 0, .int .i64 0] 40) := ⟨_, rfl⟩
    rw [← hw12] at h12 B12 R12 T12 ⊢
    have r0 : w12.cell? ⟨w11.heap.size, 0, none⟩ = some (.int .i64 0) := bk_cell h12 0
    have r1 : w12.cell? ⟨w11.heap.size, 1, none⟩ = some (.int .i64 0) := bk_cell h12 1
    obtain ⟨d0, d1, d2⟩ := DD.out w12 B12.out
    clear b12 h12 hw12
    have HI9 := Lib.hid (fun q => is10_any g A4 c4 L u e (w12.drewN q) T12.out R12.out HF.out)
    rw [HN.out] at HI9
    have BW := Lib.hid (B8.out.trans (B12.out.mono B8.out.size))
    clear hpos
    have j0 : decide (i ≥ 0) = true := decide_eq_true (by omega)
    have j1 : decide (i < (N : Int)) = false := decide_eq_false (by omega)
    have j2 : decide ((0 : Int) ≤ i) = true := decide_eq_true i0
    clear x0 x1 x2 q0 q2 zpos zp0
    go_quiet (fail)
    go_wp2_with (go_at_call 12; refine (HI9.out _).mono ?_; rintro e w13 ⟨rfl, hb⟩; have B13 := Lib.hid hb; clear hb)
    go_ret
    exact ⟨rfl, BW.out.trans ((drewN_below w12.heap.size w12 _).trans B13.out |>.mono BW.out.size)⟩

end Go.Proofs.YtaahfkkcjfpieaaDoor
