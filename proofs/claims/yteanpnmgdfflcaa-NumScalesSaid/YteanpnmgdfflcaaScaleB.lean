/- NumScales. -/
import Derived.Test.YteanpnmgdfflcaaScaleA
import Derived.Test.YteanpnmgdfflcaaBigI
namespace Go.Proofs.Yteanpnmgdfflcaa
open Go.RowKit

set_option maxRecDepth 100000 in
set_option maxHeartbeats 1600000 in
theorem scales_no (a b c : Int) (w : World) (h : a < 0 ∨ b < 0 ∨ c < 1) :
    Calls Try.prog 5 #[.int .i64 a, .int .i64 b, .int .i64 c] w fun e w' => e = .returned (.bool true) ∧ w = w' := by
  have HS := Lib.hid (scale_no a b c w h)
  rcases (by omega : a < 0 ∨ (¬ a < 0 ∧ b < 0) ∨ (¬ a < 0 ∧ ¬ b < 0 ∧ c < 1)) with h1 | ⟨h1, h2⟩ | ⟨h1, h2, h3⟩
  all_goals
    clear h
    go_enter Try.func5, Try.ntmps5
    go_wp2_with fail
    refine (alive_any _).mono ?_
    rintro e w' ⟨rfl, rfl⟩
    go_wp2_with fail
    refine HS.out.mono ?_
    rintro e w' ⟨rfl, rfl⟩
    go_wp2_with fail
    refine (is_any 1 1 _ (by decide) (by decide)).mono ?_
    rintro e w' ⟨rfl, rfl⟩
    go_wp2_with fail
    go_ret
    exact ⟨rfl, rfl⟩

theorem div_fits {a b c : Nat} (hc : 1 ≤ c) : fits ((a * b / c : Nat) : Int) ↔ (a : Int) * (b : Int) < (c : Int) * 9223372036854775808 := by
  have h : a * b / c < 9223372036854775808 ↔ a * b < 9223372036854775808 * c := Nat.div_lt_iff_lt_mul hc
  have e1 : (a : Int) * (b : Int) = ((a * b : Nat) : Int) := (Int.natCast_mul a b).symm
  rw [e1]
  generalize a * b / c = q at *
  generalize a * b = p at *
  unfold fits
  omega

/-- What the drawn statement leaves: a Big in a new block. -/
def SRel (W0 : World) (z : Int) (s11 : Value) (wx : World) : Prop :=
  ∃ (p : Nat) (x : Bool) (P : Option Addr) (n m : Nat), s11 = .pointer (some ⟨p, 0, none⟩) ∧ wx.cell? ⟨p, 0, none⟩ = some (.bool x) ∧ wx.cell? ⟨p, 1, none⟩ = some (.slice P n m) ∧
    BV wx (.agg #[.bool x, .slice P n m]) z 10 ∧ Below W0.heap.size W0 wx

set_option maxRecDepth 100000 in
set_option maxHeartbeats 8000000 in
theorem scales_any (an bn cn : Nat) (a b c : Int) (w : World) (ea : a = an) (eb : b = bn) (ec : c = cn) (ha : fits a) (hb : fits b) (hc : fits c) (hc1 : 1 ≤ c) :
    Calls Try.prog 5 #[.int .i64 a, .int .i64 b, .int .i64 c] w fun e w' => e = .returned (.bool true) ∧ Below w.heap.size w w' := by
  have a1 : ¬ a < 0 := by omega
  have b1 : ¬ b < 0 := by omega
  have c1' : ¬ c < 1 := by omega
  obtain ⟨q, hq⟩ : ∃ n, n = an * bn / cn := ⟨_, rfl⟩
  have hsc : Calls Try.prog 24 #[.int .i64 a, .int .i64 b, .int .i64 c] w fun e w' => e = .returned (.tuple #[.int .i64 (sm (q : Int)), ev (bad (q : Int))]) ∧ Below w.heap.size w w' := by
    have := scale_any an bn cn w (by unfold fits at ha; omega) (by unfold fits at hb; omega) (by unfold fits at hc; omega) (by omega)
    rw [← hq, ← ea, ← eb, ← ec] at this
    exact this
  have hdf : fits (q : Int) ↔ a * b < c * 9223372036854775808 := by
    have := div_fits (a := an) (b := bn) (c := cn) (by omega)
    rw [← hq, ← ea, ← eb, ← ec] at this
    exact this
  have hfd : (a * b).fdiv c = q := by
    rw [ea, eb, ec, hq]
    have e1 : (an : Int) * (bn : Int) = ((an * bn : Nat) : Int) := (Int.natCast_mul an bn).symm
    rw [e1, Int.fdiv_eq_ediv_of_nonneg _ (by omega)]
    exact (Int.natCast_ediv _ _).symm
  have HSC := Lib.hid hsc; have HDF := Lib.hid hdf; have HFD := Lib.hid hfd
  have HA := Lib.hid ha; have HB := Lib.hid hb; have HC := Lib.hid hc; have HC1 := Lib.hid hc1
  clear hsc hdf hfd ha hb hc hc1 hq ea eb ec
  go_enter Try.func5, Try.ntmps5
  go_wp2_with fail
  refine (alive_any _).mono ?_
  rintro e w' ⟨rfl, rfl⟩
  go_wp2_with fail
  refine HSC.out.mono ?_
  rintro e w0 ⟨rfl, hb0⟩
  have B0' := Lib.hid hb0; clear hb0
  go_wp2_with fail
  refine (of_any _ _ HA.out).mono ?_
  rintro e w1 ⟨v1, rfl, b1', hb1⟩
  have V1 := Lib.hid b1'; have B1 := Lib.hid (B0'.out.trans (hb1.mono B0'.out.size)); clear b1' hb1
  go_wp2_with fail
  refine (of_any _ _ HB.out).mono ?_
  rintro e w2 ⟨v2, rfl, b2', hb2⟩
  have V1 := Lib.hid (V1.out.below hb2); have V2 := Lib.hid b2'; have B2 := Lib.hid (B1.out.trans (hb2.mono B1.out.size)); clear b2' hb2
  go_wp2_with fail
  refine (times_big _ _ a b 4 4 _ V1.out V2.out (by omega) (by omega)).mono ?_
  rintro e w3 ⟨v3, rfl, b3', hb3⟩
  have V3 := Lib.hid b3'; have B3 := Lib.hid (B2.out.trans (hb3.mono B2.out.size)); clear b3' hb3 V1 V2
  go_wp2_with fail
  refine (of_any _ _ HC.out).mono ?_
  rintro e w4 ⟨v4, rfl, b4', hb4⟩
  have V3 := Lib.hid (V3.out.below hb4); have V4 := Lib.hid b4'; have B4 := Lib.hid (B3.out.trans (hb4.mono B3.out.size)); clear b4' hb4
  obtain ⟨s1, A1, n1, c1, rfl⟩ := V3.out.open_
  obtain ⟨s2, A2, n2, c2, rfl⟩ := V4.out.open_
  go_upto_region 7 with fail
  generalize hW0 : World.alloc (World.alloc w4 _) _ = W0
  obtain ⟨g1, g2, g3⟩ := two_new _ _ _ _ W0 hW0
  clear hW0
  have B5 := Lib.hid (B4.out.trans (g3.mono B4.out.size))
  have X0 := Lib.hid (V3.out.below g3)
  have Y0 := Lib.hid (V4.out.below g3)
  have k1 : W0.cell? ⟨w4.heap.size, 0, none⟩ = some (.bool s1) := whole_cell g1 0
  have k2 : W0.cell? ⟨w4.heap.size, 1, none⟩ = some (.slice A1 n1 c1) := whole_cell g1 1
  have k3 : W0.cell? ⟨w4.heap.size + 1, 0, none⟩ = some (.bool s2) := whole_cell g2 0
  have k4 : W0.cell? ⟨w4.heap.size + 1, 1, none⟩ = some (.slice A2 n2 c2) := whole_cell g2 1
  clear g1 g2 g3 V3 V4 B0' B1 B2 B3 B4
  have lt2 : ∀ n : Nat, n < n + 1 + 1 := fun n => by omega
  go_cut [11] (fun s11 wx => SRel W0 (c * 9223372036854775808) s11 wx)
  case first =>
    go_region_held3 (fun w' => w'.cell? ⟨w4.heap.size, 0, none⟩ = some (.bool s1) ∧ w'.cell? ⟨w4.heap.size, 1, none⟩ = some (.slice A1 n1 c1) ∧ w'.cell? ⟨w4.heap.size + 1, 0, none⟩ = some (.bool s2) ∧ w'.cell? ⟨w4.heap.size + 1, 1, none⟩ = some (.slice A2 n2 c2) ∧ Below W0.heap.size W0 w')
      (first | exact held4 (Below.refl _ _).drew k1 k2 k3 k4 | exact held4 (by assumption) k1 k2 k3 k4 | (go_split_ands; exact held4 (by go_grown; done) k1 k2 k3 k4))
      (first
        | (go_at_call_of 9 (Value.int .i64 9223372036854775807); go_split_ands; refine (of_any 9223372036854775807 _ (by decide)).mono ?_; rintro e w5 ⟨v5, rfl, b5, hb5⟩; have hBw5 : Below W0.heap.size W0 w5 := Below.trans (by assumption) (hb5.mono (Below.size (w := W0) (B := W0.heap.size) (by assumption))); have V5 := Lib.hid b5; obtain ⟨o11, o12⟩ := old_cells hb5; have sz1 := hb5.size; (try simp at sz1); (try have lt01 : W0.heap.size < w5.heap.size := by omega); (try have lu01 : W0.heap.size < w5.heap.size + 1 := by omega); clear hb5 b5)
        | (go_at_call_of 9 (Value.int .i64 1); go_split_ands; refine (of_any 1 _ (by decide)).mono ?_; rintro e w6 ⟨v6, rfl, b6, hb6⟩; have hBw6 : Below W0.heap.size W0 w6 := Below.trans (by assumption) (hb6.mono (Below.size (w := W0) (B := W0.heap.size) (by assumption))); have V5 := Lib.hid (V5.out.below (Below.trans (by go_grown) (hb6.mono (by first | (exact Nat.le_refl _) | omega | (simp; done) | (simp; omega))))); have V6 := Lib.hid b6; obtain ⟨o21, o22⟩ := old_cells hb6; have sz2 := hb6.size; (try simp at sz2); (try have lt02 : W0.heap.size < w6.heap.size := by omega); (try have lu02 : W0.heap.size < w6.heap.size + 1 := by omega); (try have lt12 : w5.heap.size < w6.heap.size := by omega); (try have lu12 : w5.heap.size < w6.heap.size + 1 := by omega); clear hb6 b6)
        | (go_at_call 15; go_split_ands; refine (plus_big _ _ 9223372036854775807 1 4 4 _ (V5.out.below ?_) (V6.out.below ?_) (by omega) (by omega)).mono ?_; (focus go_grown); (focus go_grown); rintro e w7 ⟨v7, rfl, b7, hb7⟩; have hBw7 : Below W0.heap.size W0 w7 := Below.trans (by assumption) (hb7.mono (Below.size (w := W0) (B := W0.heap.size) (by assumption))); have V7 := Lib.hid b7; obtain ⟨o31, o32⟩ := old_cells hb7; have sz3 := hb7.size; (try simp at sz3); (try have lt03 : W0.heap.size < w7.heap.size := by omega); (try have lu03 : W0.heap.size < w7.heap.size + 1 := by omega); (try have lt13 : w5.heap.size < w7.heap.size := by omega); (try have lu13 : w5.heap.size < w7.heap.size + 1 := by omega); (try have lt23 : w6.heap.size < w7.heap.size := by omega); (try have lu23 : w6.heap.size < w7.heap.size + 1 := by omega); clear hb7 b7)
        | (go_at_call 17; go_split_ands; refine (times_big _ _ c (9223372036854775807 + 1) 4 5 _ (Y0.out.below ?_) (V7.out.below ?_) (by omega) (by omega)).mono ?_; assumption; (focus go_grown); rintro e w8 ⟨v8, rfl, b8, hb8⟩; have hBw8 : Below W0.heap.size W0 w8 := Below.trans (by assumption) (hb8.mono (Below.size (w := W0) (B := W0.heap.size) (by assumption))); have V8 := Lib.hid b8; obtain ⟨s8, P8, n8, m8, rfl⟩ := b8.open_; obtain ⟨o41, o42⟩ := old_cells hb8; have sz4 := hb8.size; (try simp at sz4); (try have lt04 : W0.heap.size < w8.heap.size := by omega); (try have lu04 : W0.heap.size < w8.heap.size + 1 := by omega); (try have lt14 : w5.heap.size < w8.heap.size := by omega); (try have lu14 : w5.heap.size < w8.heap.size + 1 := by omega); (try have lt24 : w6.heap.size < w8.heap.size := by omega); (try have lu24 : w6.heap.size < w8.heap.size + 1 := by omega); (try have lt34 : w7.heap.size < w8.heap.size := by omega); (try have lu34 : w7.heap.size < w8.heap.size + 1 := by omega); clear hb8 b8))
    all_goals
      go_wp2_with fail
      go_meet
      go_split_ands
      refine ⟨_, s8, P8, n8, m8, rfl, ?_, ?_, ?_, by assumption⟩
      · go_simp
      · go_simp
      · repeat (first | (with_reducible refine BV.alloc ?_ _) | ((with_reducible refine BV.store1 ?_ ?_ _); rotate_left; focus (go_simp; first | done | rfl)))
        exact V8.out
  case rest =>
    obtain ⟨p, x, P, n, m, rfl, e1, e2, VE, hB⟩ := hcut
    have j1 := (hB.cell (World.block_lt_of_cell? _ _ k1)).trans k1
    have j2 := (hB.cell (World.block_lt_of_cell? _ _ k2)).trans k2
    have j3 := (hB.cell (World.block_lt_of_cell? _ _ k3)).trans k3
    have j4 := (hB.cell (World.block_lt_of_cell? _ _ k4)).trans k4
    have X1 := Lib.hid (X0.out.below hB); have Y1 := Lib.hid (Y0.out.below hB); have E1 := Lib.hid VE; have B6 := Lib.hid (B5.out.trans (hB.mono B5.out.size))
    clear k1 k2 k3 k4 hB VE X0 Y0 B5
    go_wp2_with fail
    refine (less_big _ _ (a * b) (c * 9223372036854775808) 9 10 _ X1.out E1.out (by omega) (by omega)).mono ?_
    rintro e W5 ⟨rfl, hb5⟩
    have l1 := (hb5.cell (World.block_lt_of_cell? _ _ j1)).trans j1
    have l2 := (hb5.cell (World.block_lt_of_cell? _ _ j2)).trans j2
    have l3 := (hb5.cell (World.block_lt_of_cell? _ _ j3)).trans j3
    have l4 := (hb5.cell (World.block_lt_of_cell? _ _ j4)).trans j4
    have X2 := Lib.hid (X1.out.below hb5); have Y2 := Lib.hid (Y1.out.below hb5); have B7 := Lib.hid (B6.out.trans (hb5.mono B6.out.size))
    clear j1 j2 j3 j4 hb5 e1 e2 X1 Y1 E1 B6
    by_cases hf : fits (q : Int)
    · have hlt : decide (a * b < c * 9223372036854775808) = true := decide_eq_true (HDF.out.mp hf)
      have hlt2 := Lib.hid hlt
      have hsq := sm_fit hf
      have hbq : (bad (q : Int) == 0) = true := by rw [bad_fit hf]; rfl
      have HFQ := Lib.hid hf
      have q0 := fun op t W x k => guard_ev op t W x k
      have q1 := fun W k => eql_ev W k
      have X9 : Hid (BV W5 (.agg #[.bool s1, .slice A1 n1 c1]) (a * b) 20) := by
        obtain ⟨A', ds, c', e1, e2, e3, e4, e5, e6⟩ := X2.out
        exact ⟨A', ds, c', e1, e2, e3, e4, by omega, e6⟩
      have HC0 : Hid (c ≠ 0) := by have := HC1.out; show c ≠ 0; omega
      clear hf
      go_upto_region 10 with fail
      go_region_held3 (fun w' => w'.cell? ⟨w4.heap.size, 0, none⟩ = some (.bool s1) ∧ w'.cell? ⟨w4.heap.size, 1, none⟩ = some (.slice A1 n1 c1) ∧ w'.cell? ⟨w4.heap.size + 1, 0, none⟩ = some (.bool s2) ∧ w'.cell? ⟨w4.heap.size + 1, 1, none⟩ = some (.slice A2 n2 c2) ∧ Below W5.heap.size W5 w')
        (first | exact held4 (Below.refl _ _).drew l1 l2 l3 l4 | exact held4 (by assumption) l1 l2 l3 l4)
        (first
          | (go_at_call 9; go_split_ands; refine (of_any (q : Int) _ HFQ.out).mono ?_; rintro e w6 ⟨v6, rfl, b6, hb6⟩; have hBw6 : Below W5.heap.size W5 w6 := Below.trans (by assumption) (hb6.mono (Below.size (w := W5) (B := W5.heap.size) (by assumption))); have V6 := Lib.hid b6; clear b6 hb6)
          | (go_at_call 22; go_split_ands; refine (quotient_true _ _ _ (a * b) c (q : Int) _ (X9.out.below ?_) (Y2.out.below ?_) V6.out HC0.out HFD.out).mono ?_; assumption; assumption; rintro e w7 ⟨rfl, hb7⟩; have hBw7 : Below W5.heap.size W5 w7 := Below.trans (by assumption) (hb7.mono (Below.size (w := W5) (B := W5.heap.size) (by assumption))); clear hb7))
      go_wp2_with fail
      go_ret
      exact ⟨rfl, B7.out.trans (Below.mono (by assumption) B7.out.size)⟩
    · have hlt : decide (a * b < c * 9223372036854775808) = false := decide_eq_false (fun h => hf (HDF.out.mpr h))
      have hsq : (sm (q : Int) == 0) = true := by rw [sm_no hf]; rfl
      have hbq : (bad (q : Int) == 5) = true := by rw [bad_no hf]; rfl
      clear hf
      go_wp2_with fail
      refine (is_any _ _ _ (bad_lo _).1 (bad_lo _).2).mono ?_
      rintro e w' ⟨rfl, rfl⟩
      go_wp2_with fail
      go_ret
      exact ⟨rfl, B7.out⟩

theorem scales_walk (a b c : Int) (w : World) (ha : fits a) (hb : fits b) (hc : fits c) :
    Calls Try.prog 5 #[.int .i64 a, .int .i64 b, .int .i64 c] w fun e w' => e = .returned (.bool true) ∧ Below w.heap.size w w' := by
  by_cases h : a < 0 ∨ b < 0 ∨ c < 1
  · exact (scales_no a b c w h).mono fun e w' ⟨he, hw⟩ => ⟨he, hw ▸ Below.refl _ _⟩
  · exact scales_any a.toNat b.toNat c.toNat a b c w (by omega) (by omega) (by omega) ha hb hc (by omega)
end Go.Proofs.Yteanpnmgdfflcaa
