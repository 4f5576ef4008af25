/- NumDivs, where there is a quotient. -/
import Derived.Test.YteanpnmgdfflcaaBigI
import Derived.Test.YteanpnmgdfflcaaNumH
namespace Go.Proofs.Yteanpnmgdfflcaa
open Go.RowKit

/-- Three Bigs' six cells, kept over whatever leaves all below W0's size as it was. -/
theorem held6 {W0 w' : World} {p1 p2 p3 p4 p5 p6 : Addr} {x1 x2 x3 x4 x5 x6 : Value} (h : Below W0.heap.size W0 w') (k1 : W0.cell? p1 = some x1) (k2 : W0.cell? p2 = some x2) (k3 : W0.cell? p3 = some x3) (k4 : W0.cell? p4 = some x4) (k5 : W0.cell? p5 = some x5) (k6 : W0.cell? p6 = some x6) :
    w'.cell? p1 = some x1 ∧ w'.cell? p2 = some x2 ∧ w'.cell? p3 = some x3 ∧ w'.cell? p4 = some x4 ∧ w'.cell? p5 = some x5 ∧ w'.cell? p6 = some x6 ∧ Below W0.heap.size W0 w' :=
  ⟨(h.cell (World.block_lt_of_cell? _ _ k1)).trans k1, (h.cell (World.block_lt_of_cell? _ _ k2)).trans k2, (h.cell (World.block_lt_of_cell? _ _ k3)).trans k3, (h.cell (World.block_lt_of_cell? _ _ k4)).trans k4, (h.cell (World.block_lt_of_cell? _ _ k5)).trans k5, (h.cell (World.block_lt_of_cell? _ _ k6)).trans k6, h⟩

set_option maxRecDepth 100000 in
set_option maxHeartbeats 3200000 in
theorem divs_some (a b q r s t g : Int) (w : World) (ha : fits a) (hb : fits b) (hq : fits q) (hb0 : b ≠ 0) (hqd : a.fdiv b = q) (hrd : a.fmod b = r)
    (hs : (b < 1 ∧ s = 0 ∧ t = 0 ∧ g = 1) ∨ (1 ≤ b ∧ s = q ∧ t = r ∧ g = 0)) (hno : a = -9223372036854775808 → b ≠ -1) :
    Calls Try.prog 4 #[.int .i64 a, .int .i64 b] w fun e w' => e = .returned (.bool true) ∧ Below w.heap.size w w' := by
  have hA := Lib.hid ha; have hB := Lib.hid hb; have hQ := Lib.hid hq
  have hd := div_any a b w ha hb hb0
  have hm := mod_any a b w ha hb hb0
  have hsp : Calls Try.prog 20 #[.int .i64 a, .int .i64 b] w fun e w' => e = .returned (.tuple #[.int .i64 s, .int .i64 t, ev g]) ∧ w = w' := by
    rcases hs with ⟨h1, rfl, rfl, rfl⟩ | ⟨h1, rfl, rfl, rfl⟩
    · exact split_no a b w h1
    · have := split_any a b w ha hb h1
      rw [hqd, hrd] at this
      exact this
  rw [hqd, sm_fit hq, bad_fit hq, ev_zero] at hd
  rw [hrd] at hm
  have hz : sm (a + -(b * q)) = r := by
    have e := fdm a b
    rw [hqd, hrd] at e
    have hr : a + -(b * q) = r := by omega
    rw [hr, sm_fit]
    rw [← hrd]; exact fmod_fit hb hb0
  have HD := Lib.hid hd; have HM := Lib.hid hm; have HS := Lib.hid hsp; have HZ := Lib.hid hz; have HQD := Lib.hid hqd; have HB0 := Lib.hid hb0
  have q0 := fun op t x k => guard_ev op t w x k
  have hb0' : (b == 0) = false := by simpa using hb0
  have hmm : (a == -9223372036854775808) = false ∨ ((a == -9223372036854775808) = true ∧ (b == -1) = false) := by
    by_cases h : a = -9223372036854775808
    · exact .inr ⟨by simp [h], by simpa using hno h⟩
    · exact .inl (by simpa using h)
  have HS2 := Lib.hid hs
  have h1 : (b < 1 ∧ (s != 0) = false ∧ (t != 0) = false ∧ (g == 1) = true) ∨ (¬ b < 1 ∧ (s == q) = true ∧ (t == r) = true) := by
    rcases hs with ⟨h1, rfl, rfl, rfl⟩ | ⟨h1, rfl, rfl, rfl⟩
    · exact .inl ⟨h1, rfl, rfl, rfl⟩
    · exact .inr ⟨by omega, by simp, by simp⟩
  have hg : Hid (0 ≤ g ∧ g < 100) := by show _ ∧ _; omega
  have hg2 : Hid (¬ b < 1 → ev g = .nilIface) := fun h => by
    rcases hs with ⟨h1, _⟩ | ⟨_, _, _, rfl⟩
    · exact absurd h1 h
    · rfl
  clear ha hb hq hd hm hsp hz hqd hrd hno hs hb0
  go_enter Try.func4, Try.ntmps4
  go_wp2_with fail
  refine (alive_any _).mono ?_
  rintro e w' ⟨rfl, rfl⟩
  go_wp2_with fail
  refine (HD.out).mono ?_
  rintro e w' ⟨rfl, rfl⟩
  go_wp2_with fail
  refine (HM.out).mono ?_
  rintro e w' ⟨rfl, rfl⟩
  go_wp2_with fail
  refine (HS.out).mono ?_
  rintro e w' ⟨rfl, rfl⟩
  go_upto_region 8 with fail
  go_cut [80] (fun s80 wx => s80 = .bool false ∧ wx = w)
  case first =>
    rcases h1 with ⟨h2, h3, h4, h5⟩ | ⟨h2, h3, h4⟩
    · have h6 : (g == 1) = true := h5
      go_wp2_with (go_at_call 21; refine (is_any _ _ _ hg.out.1 hg.out.2).mono ?_; rintro e w' ⟨rfl, rfl⟩)
      go_meet
      exact ⟨rfl, rfl⟩
    · go_wp2_with fail
      go_meet
      exact ⟨rfl, rfl⟩
  case rest =>
    obtain ⟨rfl, rfl⟩ := hcut
    go_upto_region 10 with fail
    go_cut [86] (fun s86 wx => s86 = .bool false ∧ wx = wc)
    case first =>
      rcases hmm with h2 | ⟨h2, h3⟩
      · go_wp2_with fail
        go_meet
        exact ⟨rfl, rfl⟩
      · go_wp2_with fail
        go_meet
        exact ⟨rfl, rfl⟩
    case rest =>
      obtain ⟨rfl, rfl⟩ := hcut
      clear hmm
      go_wp2_with fail
      refine (of_any _ _ hA.out).mono ?_
      rintro e w1 ⟨v1, rfl, b1, hb1⟩
      have V1 := Lib.hid b1; have B1 := Lib.hid hb1
      clear b1 hb1
      go_wp2_with fail
      refine (of_any _ _ hB.out).mono ?_
      rintro e w2 ⟨v2, rfl, b2, hb2⟩
      have V1 := Lib.hid (V1.out.below hb2); have V2 := Lib.hid b2; have B2 := Lib.hid (B1.out.trans (hb2.mono B1.out.size))
      clear b2 hb2
      go_wp2_with fail
      refine (of_any _ _ hQ.out).mono ?_
      rintro e w3 ⟨v3, rfl, b3, hb3⟩
      have V1 := Lib.hid (V1.out.below hb3); have V2 := Lib.hid (V2.out.below hb3); have V3 := Lib.hid b3; have B3 := Lib.hid (B2.out.trans (hb3.mono B2.out.size))
      clear b3 hb3
      obtain ⟨s1, A1, n1, c1, rfl⟩ := V1.out.open_
      obtain ⟨s2, A2, n2, c2, rfl⟩ := V2.out.open_
      obtain ⟨s3, A3, n3, c3, rfl⟩ := V3.out.open_
      go_upto_region 13 with fail
      generalize hW0 : World.alloc (World.alloc (World.alloc w3 _) _) _ = W0
      obtain ⟨g1, g2, g3, g4, _⟩ := three_new _ _ _ _ _ W0 hW0
      clear hW0
      have B0 := Lib.hid (B3.out.trans (g4.mono B3.out.size))
      have X0 := Lib.hid (V1.out.below g4)
      have Y0 := Lib.hid (V2.out.below g4)
      have Z0 := Lib.hid (V3.out.below g4)
      have k1 : W0.cell? ⟨w3.heap.size, 0, none⟩ = some (.bool s1) := whole_cell g1 0
      have k2 : W0.cell? ⟨w3.heap.size, 1, none⟩ = some (.slice A1 n1 c1) := whole_cell g1 1
      have k3 : W0.cell? ⟨w3.heap.size + 1, 0, none⟩ = some (.bool s2) := whole_cell g2 0
      have k4 : W0.cell? ⟨w3.heap.size + 1, 1, none⟩ = some (.slice A2 n2 c2) := whole_cell g2 1
      have k5 : W0.cell? ⟨w3.heap.size + 1 + 1, 0, none⟩ = some (.bool s3) := whole_cell g3 0
      have k6 : W0.cell? ⟨w3.heap.size + 1 + 1, 1, none⟩ = some (.slice A3 n3 c3) := whole_cell g3 1
      clear g1 g2 g3 g4 V1 V2 V3 B1 B2 B3
      have X9 : Hid (BV W0 (.agg #[.bool s1, .slice A1 n1 c1]) a 20) := by
        obtain ⟨A', ds, c', e1, e2, e3, e4, e5, e6⟩ := X0.out
        exact ⟨A', ds, c', e1, e2, e3, e4, by omega, e6⟩
      go_wp2_with fail
      refine (quotient_true _ _ _ a b q _ X9.out Y0.out Z0.out HB0.out HQD.out).mono ?_
      rintro e w4 ⟨rfl, hb4⟩
      obtain ⟨m1, m2, m3, m4, m5, m6, hbw⟩ := held6 hb4 k1 k2 k3 k4 k5 k6
      have X1 := Lib.hid (X0.out.below hbw); have Y1 := Lib.hid (Y0.out.below hbw); have Z1 := Lib.hid (Z0.out.below hbw); have B4 := Lib.hid (B0.out.trans (hbw.mono B0.out.size))
      clear hb4 k1 k2 k3 k4 k5 k6 hbw X0 Y0 Z0 X9 B0
      go_upto_region 15 with fail
      have X0 := X1; have Y0 := Y1; have Z0 := Z1
      go_region_held3 (fun w' => w'.cell? ⟨w3.heap.size, 0, none⟩ = some (.bool s1) ∧ w'.cell? ⟨w3.heap.size, 1, none⟩ = some (.slice A1 n1 c1) ∧ w'.cell? ⟨w3.heap.size + 1, 0, none⟩ = some (.bool s2) ∧ w'.cell? ⟨w3.heap.size + 1, 1, none⟩ = some (.slice A2 n2 c2) ∧ w'.cell? ⟨w3.heap.size + 1 + 1, 0, none⟩ = some (.bool s3) ∧ w'.cell? ⟨w3.heap.size + 1 + 1, 1, none⟩ = some (.slice A3 n3 c3) ∧ Below w4.heap.size w4 w')
        (first | exact held6 (Below.refl _ _).drew m1 m2 m3 m4 m5 m6 | exact held6 (by assumption) m1 m2 m3 m4 m5 m6)
        (first
      | (go_at_call 17; go_split_ands; refine (times_big _ _ b q 4 4 _ (Y0.out.below ?_) (Z0.out.below ?_) (by omega) (by omega)).mono ?_; assumption; assumption; rintro e w7 ⟨v7, rfl, b7, hb7'⟩; have hBw7 : Below w4.heap.size w4 w7 := Below.trans (by assumption) (hb7'.mono (Below.size (w := w4) (B := w4.heap.size) (by assumption))); have VT := Lib.hid b7; clear b7 hb7')
      | (go_at_call 16; go_split_ands; refine (minus_big _ (b * q) 9 _ VT.out (by omega)).mono ?_; rintro e w5 ⟨v5, rfl, b5, hb5⟩; have hBw5 : Below w4.heap.size w4 w5 := Below.trans (by assumption) (hb5.mono (Below.size (w := w4) (B := w4.heap.size) (by assumption))); have VM := Lib.hid b5; clear b5 hb5)
      | (go_at_call 15; go_split_ands; refine (plus_big _ _ a (-(b * q)) 4 9 _ (X0.out.below ?_) VM.out (by omega) (by omega)).mono ?_; assumption; rintro e w6 ⟨v6, rfl, b6, hb6⟩; have hBw6 : Below w4.heap.size w4 w6 := Below.trans (by assumption) (hb6.mono (Below.size (w := w4) (B := w4.heap.size) (by assumption))); have VP := Lib.hid b6; clear b6 hb6)
      | (go_at_call 23; go_split_ands; refine (small_any _ (a + -(b * q)) 10 _ VP.out (by omega)).mono ?_; rintro e w8 ⟨rfl, hb7⟩; have hBw8 : Below w4.heap.size w4 w8 := Below.trans (by assumption) (hb7.mono (Below.size (w := w4) (B := w4.heap.size) (by assumption))); clear hb7))
      have t9 : (r == sm (a + -(b * q))) = true := by rw [HZ.out]; simp
      rcases h1 with ⟨h2, _⟩ | ⟨h2, h3, h4⟩
      · go_wp2_with fail
        go_ret
        exact ⟨rfl, B4.out.trans (Below.mono (by assumption) B4.out.size)⟩
      · have h5 := hg2.out h2
        go_wp2_with fail
        go_ret
        exact ⟨rfl, B4.out.trans (Below.mono (by assumption) B4.out.size)⟩

theorem divs_walk (a b : Int) (w : World) (ha : fits a) (hb : fits b) :
    Calls Try.prog 4 #[.int .i64 a, .int .i64 b] w fun e w' => e = .returned (.bool true) ∧ Below w.heap.size w w' := by
  by_cases h0 : b = 0
  · subst h0
    exact (divs_zero a w).mono fun e w' ⟨he, hw⟩ => ⟨he, hw ▸ Below.refl _ _⟩
  by_cases ho : a = -9223372036854775808 ∧ b = -1
  · obtain ⟨rfl, rfl⟩ := ho
    exact (divs_over w).mono fun e w' ⟨he, hw⟩ => ⟨he, hw ▸ Below.refl _ _⟩
  have hq : fits (a.fdiv b) := by
    by_cases hf : fits (a.fdiv b)
    · exact hf
    · exact absurd (fdiv_over ha hb h0 hf) ho
  by_cases h1 : b < 1
  · exact divs_some a b _ _ 0 0 1 w ha hb hq h0 rfl rfl (.inl ⟨h1, rfl, rfl, rfl⟩) (fun h h' => ho ⟨h, h'⟩)
  · exact divs_some a b _ _ _ _ 0 w ha hb hq h0 rfl rfl (.inr ⟨by omega, rfl, rfl, rfl⟩) (fun h h' => ho ⟨h, h'⟩)
end Go.Proofs.Yteanpnmgdfflcaa
