/- The statements of layer 10: LeapDays. (Written by gen_leap.py.) -/
import Derived.Test.YtaahfkkcjfpieaaDoorLeapP
import Derived.Test.YtaahfkkcjfpieaaDoorLeapN
import Derived.Test.YtaahfkkcjfpieaaDoorLeapH
namespace Go.Proofs.YtaahfkkcjfpieaaDoor
open Go.RowKit
set_option linter.unusedVariables false
set_option linter.unusedSimpArgs false

/-- The document's table in a box of its own. -/
theorem doc_box (w : World) (A : Option Addr) (n c : Nat) (u e : Int) : ∃ W3, W3 = w.alloc (.cells #[.slice A n c, .int .i64 u, .int .i64 e] 33) ∧ Below w.heap.size w W3 ∧ w.heap.size < W3.heap.size ∧
    ∀ W, Below W3.heap.size W3 W → W.cell? ⟨w.heap.size, 0, none⟩ = some (.slice A n c) ∧ W.cell? ⟨w.heap.size, 1, none⟩ = some (.int .i64 u) ∧ W.cell? ⟨w.heap.size, 2, none⟩ = some (.int .i64 e) := by
  have g := heap_alloc_new w (.cells #[.slice A n c, .int .i64 u, .int .i64 e] 33)
  have hl := bk_lt g
  exact ⟨_, rfl, bel_box w _, hl, fun W hb => ⟨(hb.cell (p := ⟨w.heap.size, 0, none⟩) hl).trans (bk_cell g 0), (hb.cell (p := ⟨w.heap.size, 1, none⟩) hl).trans (bk_cell g 1), (hb.cell (p := ⟨w.heap.size, 2, none⟩) hl).trans (bk_cell g 2)⟩⟩

theorem bel2 {W1 W3 W W' : World} (h : Below W1.heap.size W1 W ∧ Below W3.heap.size W3 W) (hb : Below W.heap.size W W') : Below W1.heap.size W1 W' ∧ Below W3.heap.size W3 W' := ⟨h.1.trans (hb.mono h.1.size), h.2.trans (hb.mono h.2.size)⟩

set_option maxRecDepth 100000 in
set_option maxHeartbeats 4000000 in
theorem days10_walk (A : Option Addr) (c : Nat) (L : List Rw) (u e n s : Int) (w : World) (he : Ends w) (hr : Rp w.heap.size w A L) (hA : A = none → c = 0 ∧ L = []) (hc : L.length ≤ c) (hm : c ≤ maxLen) :
    Calls Tryd.prog 4 #[.agg #[.slice A L.length c, .int .i64 u, .int .i64 e], .int .i64 n, .int .i64 s] w fun x w' => x = .returned (.bool true) ∧ Below w.heap.size w w' := by
  obtain ⟨W1, hW1, b1, s1, hX⟩ := raw_box w A L.length c u e
  have HX := Lib.hid hX; have HB := Lib.hid b1
  have HAl := Lib.hid (alive10_any W1 (he.below b1))
  by_cases g1 : 300 < L.length
  · have z1 : (L.length : Int) > 300 := by omega
    clear he hr hA hc hm hX b1 s1 g1
    generalize L.length = N at *
    go_enter Tryd.func4, Tryd.ntmps4
    go_upto_region 1 with fail
    rw [← hW1]
    clear hW1
    go_wp2_with (go_at_call 7; refine HAl.out.mono ?_; rintro e w1 ⟨rfl, hb⟩; obtain ⟨x0, x1, x2⟩ := HX.out w1 hb; have B1 := Lib.hid hb; clear hb HAl)
    go_ret
    exact ⟨rfl, HB.out.trans (B1.out.mono HB.out.size)⟩
  have z1 : ¬ (L.length : Int) > 300 := by omega
  by_cases hk : lkE L u e = 0
  rotate_left
  · have HM := Lib.hid (fun (W : World) (hb : Below W1.heap.size W1 W) => made_no A c L u e W (he.below (b1.trans (hb.mono b1.size))) (by omega) ((hr.below (b1.trans (hb.mono b1.size))).low) hc hm hk)
    have HC := Lib.hid (fun (A' : Option Addr) (c' : Nat) (W : World) (hr' : Rp W.heap.size W A' L) => rcheck10_any A' c' L u e W hr' (by omega))
    have hkb : (lkE L u e != 0) = true := bne_iff_ne.mpr hk
    generalize lkE L u e = k at *
    clear he hr hA hc hm hX b1 s1 g1 hk
    generalize L.length = N at *
    go_enter Tryd.func4, Tryd.ntmps4
    go_upto_region 1 with fail
    rw [← hW1]
    clear hW1
    go_upto_region 5 with (go_at_call 7; refine HAl.out.mono ?_; rintro e w1 ⟨rfl, hb⟩; obtain ⟨x0, x1, x2⟩ := HX.out w1 hb; have B1 := Lib.hid hb; clear hb HAl)
    go_upto_region 6 with (go_at_call 16; refine (HM.out _ B1.out).mono ?_; rintro e w2 ⟨A', c', rfl, hr, hb⟩; have B2 := Lib.hid (B1.out.trans (hb.mono B1.out.size)); have R2 := Lib.hid hr; clear hb hr HM x0 x1 x2)
    obtain ⟨W3, hW3, b3, -, hD⟩ := doc_box w2 A' N c' u e
    rw [← hW3]
    have B3' := Lib.hid (B2.out.trans (b3.mono B2.out.size))
    have R3 := Lib.hid ((R2.out.below b3).low)
    obtain ⟨d0, d1, d2⟩ := hD W3 (Below.refl _ _)
    clear hW3 hD b3
    go_wp2_with (go_at_call 10; refine (HC.out _ _ _ R3.out).mono ?_; rintro e w4 ⟨rfl, hb⟩; have B4 := Lib.hid (B3'.out.trans (hb.mono B3'.out.size)); clear hb)
    go_ret
    exact ⟨rfl, HB.out.trans (B4.out.mono HB.out.size)⟩
  have HM := Lib.hid (fun (W : World) (hb : Below W1.heap.size W1 W) => made_some A c L u e W (he.below (b1.trans (hb.mono b1.size))) (by omega) ((hr.below (b1.trans (hb.mono b1.size))).low) hA hc hm hk)
  have V := (lkE_zero hk).1
  have HV : Hid (Vx L) := Lib.hid (.inl V)
  have HR := Lib.hid V
  have HF : Hid (L.length ≤ 256) := Lib.hid V.few
  have hbd := (HV.out.bd n).2
  have HO := Lib.hid (fun (lo : Nat) (W : World) (g : Nat) (h : Tb lo W g L u e) => offset_any n h.v HV.out)
  have HRO := Lib.hid (fun (A' : Option Addr) (c' : Nat) (W : World) (h : Rp W.heap.size W A' L) => roffset_any A' c' L u e n W h (by have := HF.out; omega))
  have HRL := Lib.hid (fun (A' : Option Addr) (c' : Nat) (W : World) (h : Rp W.heap.size W A' L) => rleap10_any A' c' L u e n W h HR.out (by have := HF.out; omega))
  have HLp := Lib.hid (fun (lo : Nat) (W : World) (g : Nat) (h : Tb lo W g L u e) => leapday_any n h.v HV.out)
  have HLe := Lib.hid (fun (lo : Nat) (W : World) (g : Nat) (h : Tb lo W g L u e) => length_any n h.v HV.out)
  have HHa := Lib.hid (fun (lo : Nat) (W : World) (g : Nat) (h : Tb lo W g L u e) => has_any n s h.v HV.out)
  have HNx := Lib.hid (fun (lo : Nat) (W : World) (g : Nat) (h : Tb lo W g L u e) => next_any n h.v HV.out)
  have HRN := Lib.hid (fun (A' : Option Addr) (c' : Nat) (W : World) (h : Rp W.heap.size W A' L) => rnext_any A' c' L u e n W h HR.out (by have := HF.out; omega))
  have HEx := Lib.hid (fun (lo : Nat) (W : World) (g : Nat) (h : Tb lo W g L u e) => expired_any n h)
  generalize ofN L n = o1 at *
  generalize ofB L n = o2 at *
  generalize lpN L n = lk at *
  generalize nxD L n = xd at *
  generalize nxK L n = xk at *
  generalize nxB L n = xb at *
  clear he hr hA hc hm hX b1 s1 g1 hk V
  generalize L.length = N at *
  have y1 : -1 ≤ lk := by omega
  have y2 : lk ≤ 1 := by omega
  clear hbd
  by_cases gs : 0 ≤ s
  · rw [decide_eq_true gs, Bool.true_and] at HHa
    have gs' : s ≥ 0 := gs
    go_enter Tryd.func4, Tryd.ntmps4
    go_upto_region 1 with fail
    rw [← hW1]
    clear hW1
    go_upto_region 5 with (go_at_call 7; refine HAl.out.mono ?_; rintro e w1 ⟨rfl, hb⟩; obtain ⟨x0, x1, x2⟩ := HX.out w1 hb; have B1 := Lib.hid hb; clear hb HAl)
    go_upto_region 6 with (go_at_call 16; refine (HM.out _ B1.out).mono ?_; rintro e w2 ⟨g, A', c', rfl, ht, hr, hb⟩; have B2 := Lib.hid (B1.out.trans (hb.mono B1.out.size)); have R2 := Lib.hid hr; have T2 := Lib.hid ht; clear hb hr ht HM x0 x1 x2)
    obtain ⟨W3, hW3, b3, hlt, hD⟩ := doc_box w2 A' N c' u e
    rw [← hW3]
    have HT : Hid (∀ W, Below W1.heap.size W1 W ∧ Below W3.heap.size W3 W → Tb _ W g L u e ∧ Rp W.heap.size W A' L) := Lib.hid fun W hb => ⟨(T2.out.below b3).below hb.2, ((R2.out.below b3).low.keep hb.2).low⟩
    have HP : Hid (∀ W, Below W1.heap.size W1 W ∧ Below W3.heap.size W3 W → (W.cell? ⟨w2.heap.size, 0, none⟩ = some (.slice A' N c') ∧ W.cell? ⟨w2.heap.size, 1, none⟩ = some (.int .i64 u) ∧ W.cell? ⟨w2.heap.size, 2, none⟩ = some (.int .i64 e)) ∧ W.cell? ⟨w.heap.size, 2, none⟩ = some (.int .i64 e)) := Lib.hid fun W hb => ⟨hD W hb.2, (HX.out W hb.1).2.2⟩
    have hB3 : Below W1.heap.size W1 W3 ∧ Below W3.heap.size W3 W3 := ⟨B2.out.trans (b3.mono B2.out.size), Below.refl _ _⟩
    have B3' := Lib.hid hB3
    obtain ⟨⟨d0, d1, d2⟩, x2⟩ := HP.out _ hB3
    clear hW3 hD b3 hB3 hlt
    go_wp2_with (first
      | (go_at_call 17; refine (HO.out _ _ _ (HT.out _ B3'.out).1).mono ?_; rintro e w4 ⟨rfl, hb⟩; have B4 := Lib.hid (bel2 B3'.out hb); obtain ⟨⟨d0, d1, d2⟩, x2⟩ := HP.out _ B4.out; clear hb HO)
      | (go_at_call 18; refine (HRO.out _ _ _ (HT.out _ B4.out).2).mono ?_; rintro e w5 ⟨rfl, hb⟩; have B5 := Lib.hid (bel2 B4.out hb); obtain ⟨⟨d0, d1, d2⟩, x2⟩ := HP.out _ B5.out; clear hb HRO)
      | (go_at_call 19; refine (HRL.out _ _ _ (HT.out _ B5.out).2).mono ?_; rintro e w6 ⟨rfl, hb⟩; have B6 := Lib.hid (bel2 B5.out hb); obtain ⟨⟨d0, d1, d2⟩, x2⟩ := HP.out _ B6.out; clear hb HRL)
      | (go_at_call 20; refine (HLp.out _ _ _ (HT.out _ B6.out).1).mono ?_; rintro e w7 ⟨rfl, hb⟩; have B7 := Lib.hid (bel2 B6.out hb); obtain ⟨⟨d0, d1, d2⟩, x2⟩ := HP.out _ B7.out; clear hb HLp)
      | (go_at_call 21; refine (HLe.out _ _ _ (HT.out _ B7.out).1).mono ?_; rintro e w8 ⟨rfl, hb⟩; have B8 := Lib.hid (bel2 B7.out hb); obtain ⟨⟨d0, d1, d2⟩, x2⟩ := HP.out _ B8.out; clear hb HLe)
      | (go_at_call 22; refine (HHa.out _ _ _ (HT.out _ B8.out).1).mono ?_; rintro e w9 ⟨rfl, hb⟩; have B9 := Lib.hid (bel2 B8.out hb); obtain ⟨⟨d0, d1, d2⟩, x2⟩ := HP.out _ B9.out; clear hb HHa)
      | (go_at_call 23; refine (HNx.out _ _ _ (HT.out _ B9.out).1).mono ?_; rintro e w10 ⟨rfl, hb⟩; have B10 := Lib.hid (bel2 B9.out hb); obtain ⟨⟨d0, d1, d2⟩, x2⟩ := HP.out _ B10.out; clear hb HNx)
      | (go_at_call 24; refine (HRN.out _ _ _ (HT.out _ B10.out).2).mono ?_; rintro e w11 ⟨rfl, hb⟩; have B11 := Lib.hid (bel2 B10.out hb); obtain ⟨⟨d0, d1, d2⟩, x2⟩ := HP.out _ B11.out; clear hb HRN))
    have HE9 := Lib.hid (fun m => HEx.out _ (w11.drewN m) g (HT.out _ B11.out).1)
    go_quiet ((go_at_call 25; exact Calls.quiet_of_same ((HE9.out _).mono fun _ _ h => ⟨h.1, h.2.symm⟩)))
    go_wp2
    go_ret
    exact ⟨rfl, (HB.out.trans (B11.out.1.mono HB.out.size)).trans (drewN_below _ _ _)⟩
  · rw [decide_eq_false gs, Bool.false_and] at HHa
    have gs' : ¬ s ≥ 0 := gs
    go_enter Tryd.func4, Tryd.ntmps4
    go_upto_region 1 with fail
    rw [← hW1]
    clear hW1
    go_upto_region 5 with (go_at_call 7; refine HAl.out.mono ?_; rintro e w1 ⟨rfl, hb⟩; obtain ⟨x0, x1, x2⟩ := HX.out w1 hb; have B1 := Lib.hid hb; clear hb HAl)
    go_upto_region 6 with (go_at_call 16; refine (HM.out _ B1.out).mono ?_; rintro e w2 ⟨g, A', c', rfl, ht, hr, hb⟩; have B2 := Lib.hid (B1.out.trans (hb.mono B1.out.size)); have R2 := Lib.hid hr; have T2 := Lib.hid ht; clear hb hr ht HM x0 x1 x2)
    obtain ⟨W3, hW3, b3, hlt, hD⟩ := doc_box w2 A' N c' u e
    rw [← hW3]
    have HT : Hid (∀ W, Below W1.heap.size W1 W ∧ Below W3.heap.size W3 W → Tb _ W g L u e ∧ Rp W.heap.size W A' L) := Lib.hid fun W hb => ⟨(T2.out.below b3).below hb.2, ((R2.out.below b3).low.keep hb.2).low⟩
    have HP : Hid (∀ W, Below W1.heap.size W1 W ∧ Below W3.heap.size W3 W → (W.cell? ⟨w2.heap.size, 0, none⟩ = some (.slice A' N c') ∧ W.cell? ⟨w2.heap.size, 1, none⟩ = some (.int .i64 u) ∧ W.cell? ⟨w2.heap.size, 2, none⟩ = some (.int .i64 e)) ∧ W.cell? ⟨w.heap.size, 2, none⟩ = some (.int .i64 e)) := Lib.hid fun W hb => ⟨hD W hb.2, (HX.out W hb.1).2.2⟩
    have hB3 : Below W1.heap.size W1 W3 ∧ Below W3.heap.size W3 W3 := ⟨B2.out.trans (b3.mono B2.out.size), Below.refl _ _⟩
    have B3' := Lib.hid hB3
    obtain ⟨⟨d0, d1, d2⟩, x2⟩ := HP.out _ hB3
    clear hW3 hD b3 hB3 hlt
    go_wp2_with (first
      | (go_at_call 17; refine (HO.out _ _ _ (HT.out _ B3'.out).1).mono ?_; rintro e w4 ⟨rfl, hb⟩; have B4 := Lib.hid (bel2 B3'.out hb); obtain ⟨⟨d0, d1, d2⟩, x2⟩ := HP.out _ B4.out; clear hb HO)
      | (go_at_call 18; refine (HRO.out _ _ _ (HT.out _ B4.out).2).mono ?_; rintro e w5 ⟨rfl, hb⟩; have B5 := Lib.hid (bel2 B4.out hb); obtain ⟨⟨d0, d1, d2⟩, x2⟩ := HP.out _ B5.out; clear hb HRO)
      | (go_at_call 19; refine (HRL.out _ _ _ (HT.out _ B5.out).2).mono ?_; rintro e w6 ⟨rfl, hb⟩; have B6 := Lib.hid (bel2 B5.out hb); obtain ⟨⟨d0, d1, d2⟩, x2⟩ := HP.out _ B6.out; clear hb HRL)
      | (go_at_call 20; refine (HLp.out _ _ _ (HT.out _ B6.out).1).mono ?_; rintro e w7 ⟨rfl, hb⟩; have B7 := Lib.hid (bel2 B6.out hb); obtain ⟨⟨d0, d1, d2⟩, x2⟩ := HP.out _ B7.out; clear hb HLp)
      | (go_at_call 21; refine (HLe.out _ _ _ (HT.out _ B7.out).1).mono ?_; rintro e w8 ⟨rfl, hb⟩; have B8 := Lib.hid (bel2 B7.out hb); obtain ⟨⟨d0, d1, d2⟩, x2⟩ := HP.out _ B8.out; clear hb HLe)
      | (go_at_call 22; refine (HHa.out _ _ _ (HT.out _ B8.out).1).mono ?_; rintro e w9 ⟨rfl, hb⟩; have B9 := Lib.hid (bel2 B8.out hb); obtain ⟨⟨d0, d1, d2⟩, x2⟩ := HP.out _ B9.out; clear hb HHa)
      | (go_at_call 23; refine (HNx.out _ _ _ (HT.out _ B9.out).1).mono ?_; rintro e w10 ⟨rfl, hb⟩; have B10 := Lib.hid (bel2 B9.out hb); obtain ⟨⟨d0, d1, d2⟩, x2⟩ := HP.out _ B10.out; clear hb HNx)
      | (go_at_call 24; refine (HRN.out _ _ _ (HT.out _ B10.out).2).mono ?_; rintro e w11 ⟨rfl, hb⟩; have B11 := Lib.hid (bel2 B10.out hb); obtain ⟨⟨d0, d1, d2⟩, x2⟩ := HP.out _ B11.out; clear hb HRN))
    have HE9 := Lib.hid (fun m => HEx.out _ (w11.drewN m) g (HT.out _ B11.out).1)
    go_quiet ((go_at_call 25; exact Calls.quiet_of_same ((HE9.out _).mono fun _ _ h => ⟨h.1, h.2.symm⟩)))
    go_wp2
    go_ret
    exact ⟨rfl, (HB.out.trans (B11.out.1.mono HB.out.size)).trans (drewN_below _ _ _)⟩

end Go.Proofs.YtaahfkkcjfpieaaDoor
