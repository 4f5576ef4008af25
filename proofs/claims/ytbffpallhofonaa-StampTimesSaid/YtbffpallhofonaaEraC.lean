/- The document's answer: Power, Fold. -/
import Derived.Test.YtbffpallhofonaaEraB
import Derived.Test.YtbffpallhofonaaNumE
import Derived.Test.YtbffpallhofonaaBigH
import Derived.Test.YtbffpallhofonaaBx
namespace Go.Proofs.Ytbffpallhofonaa
open Go.RowKit
set_option linter.unusedVariables false
set_option linter.unusedSimpArgs false

set_option maxRecDepth 100000 in
set_option maxHeartbeats 3200000 in
theorem power_any (n : Nat) (w : World) (hn : n ≤ 64) :
    Calls Try.prog 44 #[.int .i64 n] w fun e w' => ∃ v, e = .returned v ∧ BV w' v (pw n) (n + 4) ∧ Below w.heap.size w w' := by
  go_enter Try.func44, Try.ntmps44
  go_wp2_with fail
  have Z0 : Bx (w.alloc (.cells #[.bool false, .slice none 0 0] 76)) w.heap.size 0 0 := Bx.new (BV.nil w)
  refine (of_any 1 _ (by decide)).mono ?_
  rintro e w2 ⟨v2, rfl, b2, hb2⟩
  have Z2 := Z0.below hb2
  have HP := Z2.lt
  have B2 : Hid (Below w.heap.size w w2) := Lib.hid ((bel_al w _ _).trans (hb2.mono (by simp)))
  obtain ⟨s1, A1, n1, c1, rfl⟩ := b2.open_
  go_upto_region 2 with fail
  have P2 := Bx.new b2
  have hb3 := bel_al w2 #[.bool s1, .slice A1 n1 c1] 76
  generalize hW0 : World.alloc w2 _ = W0 at P2 hb3 ⊢
  clear hW0 b2
  have B3 := Lib.hid (B2.out.trans (hb3.mono B2.out.size))
  have Z3 : Hid (Bx W0 w.heap.size 0 0) := Lib.hid (Z2.below hb3)
  have P3 : Hid (Bx W0 w2.heap.size (pw 0) (0 + 4)) := Lib.hid P2
  have LP : Hid (w.heap.size < w2.heap.size) := Lib.hid HP
  clear P2 hb3 hb2 B2 Z2 Z0 HP
  generalize w2.heap.size = p at *
  clear w2
  go_wp2_with fail
  go_loopg [4] n (fun g s4 wr => ∃ i : Nat, s4 = .int .i64 i ∧ i ≤ n ∧ g = n - i ∧ Hid (Bx wr p (pw i) (i + 4)) ∧ Hid (Bx wr w.heap.size 0 0) ∧ Hid (Below w.heap.size w wr))
  case atStart => exact ⟨0, rfl, by omega, rfl, P3, Z3, B3⟩
  case round =>
    obtain ⟨i, rfl, hi, rfl, PI, ZI, BI⟩ := hrel
    clear P3 B3 Z3
    obtain ⟨b, A, k, c, k1, k2, f1, f2, hv⟩ := PI.out.cells
    have VI := Lib.hid hv
    clear hv
    by_cases hlt : i < n
    · have hltz : (i : Int) < (n : Int) := by omega
      go_wp2_with (go_at_call 42; refine (plus_big _ _ (pw i) (pw i) (i + 4) (i + 4) _ VI.out VI.out (by omega) (by omega)).mono ?_; rintro e w3 ⟨v3, rfl, b3, hb3⟩; obtain ⟨s3, A3, n3, c3, rfl⟩ := b3.open_; have V3 := Lib.hid b3; have P4 := Lib.hid (PI.out.below hb3); have Z4 := Lib.hid (ZI.out.below hb3); have B4 := Lib.hid (BI.out.trans (hb3.mono BI.out.size)); obtain ⟨b4, A4, n4, c4, m1, m2, g1, g2, -⟩ := P4.out.cells; clear b3 hb3 k1 k2 f1 f2)
      go_roundg (n - (i + 1))
      case measure => omega
      case rel =>
        refine ⟨i + 1, by go_num, hlt, rfl, ?_, ?_, ?_⟩
        · have e := P4.out.put V3.out
          rw [show pw i + pw i = pw (i + 1) by rw [pw_succ]; omega, show max (i + 4) (i + 4) + 1 = i + 1 + 4 by omega] at e
          exact e
        · exact Lib.hid (P4.out.off Z4.out (Nat.ne_of_gt LP.out))
        · exact Lib.hid ((B4.out.setCell (Nat.le_of_lt LP.out) _).setCell (Nat.le_of_lt LP.out) _)
    · obtain rfl : i = n := by omega
      have ZP := ZI.out.put VI.out
      obtain ⟨b4, A4, j4, c4, k3, k4, f3, f4, -⟩ := ZI.out.cells
      obtain ⟨b5, A5, j5, c5, hz, -⟩ := ZI.out
      have hw := wset13 (wset13 hz 0 (.bool b)) 1 (.slice A k c)
      have HC := Lib.hid (And.intro (whole_cell hw 0) (whole_cell hw 1))
      have HV := Lib.hid (VI.out.store2 k3 k4 (.bool b) (.slice A k c))
      clear hz hw ZP
      have hne : w.heap.size ≠ p := Nat.ne_of_lt LP.out
      go_wp2_with fail
      obtain ⟨hc0, hc1⟩ := HC.out
      refine bodyPost_ret (v := .agg #[.bool b, .slice A k c]) (by simp [results, Try.results44, go_sem, hc0, hc1]) rfl ⟨_, rfl, HV.out, (BI.out.setCell (Nat.le_refl _) _).setCell (Nat.le_refl _) _⟩

theorem emod_is {t p : Int} (hp : 0 < p) : t % p = if t.tmod p < 0 then t.tmod p + p else t.tmod p := by
  have h1 := tdm t p
  have h2 := tmod_sgn t p (by omega)
  split
  · rw [← Int.emod_emod_of_dvd t (Int.dvd_refl p)]
    have e : t = (t.tmod p + p) + p * (t.tdiv p - 1) := by rw [Int.mul_sub]; omega
    conv => lhs; rw [e]
    rw [Int.emod_emod_of_dvd _ (Int.dvd_refl p), Int.add_mul_emod_self_left, Int.emod_eq_of_lt (by omega) (by have := h2.2.2.1 hp; omega)]
  · have e : t = t.tmod p + p * t.tdiv p := by omega
    conv => lhs; rw [e]
    rw [Int.add_mul_emod_self_left, Int.emod_eq_of_lt (by omega) (by have := h2.2.2.1 hp; omega)]

set_option maxHeartbeats 1600000 in
theorem rfold_any (t : Int) (n : Nat) (w : World) (ht : fits t) (hn : n ≤ 62) :
    Calls Try.prog 18 #[.int .i64 t, .int .i64 n] w fun e w' => e = .returned (.int .i64 (fo t n)) ∧ w = w' := by
  have HT := Lib.hid ht
  clear ht
  go_enter Try.func18, Try.ntmps18
  go_wp2_with fail
  go_loopg [5, 6] n (fun g s5 s6 wr => ∃ i : Nat, s5 = .int .i64 (pw i) ∧ s6 = .int .i64 i ∧ i ≤ n ∧ g = n - i ∧ w = wr)
  case atStart => exact ⟨0, rfl, rfl, by omega, rfl, rfl⟩
  case round =>
    obtain ⟨i, rfl, rfl, hi, rfl, rfl⟩ := hrel
    by_cases hlt : i < n
    · have hltz : (i : Int) < (n : Int) := by omega
      have h62 := pw_62 (n := i + 1) (by omega)
      have h0 := pw_pos i
      have hs := pw_succ i
      have e1 : IntKind.i64.wrap (pw i * 2) = pw (i + 1) := by rw [IntWalk.i64_in _ (by omega)]; omega
      clear hs h62
      go_wp2_with fail
      go_roundg (n - (i + 1))
      case measure => omega
      case rel => exact ⟨i + 1, rfl, by go_num, hlt, rfl, rfl⟩
    · obtain rfl : i = n := by omega
      have hp := pw_pos i
      have h62 := pw_62 hn
      have hz : (pw i == 0) = false := by simp; omega
      have hs := tmod_sgn t (pw i) (by omega)
      have he := emod_is (t := t) hp
      have e1 : fo t i = if t.tmod (pw i) < 0 then t.tmod (pw i) + pw i else t.tmod (pw i) := he
      by_cases hr : t.tmod (pw i) < 0
      · rw [if_pos hr] at e1
        have E1 := Lib.hid e1
        have hr' : decide (t.tmod (pw i) < 0) = true := decide_eq_true hr
        have e2 : IntKind.i64.wrap (t.tmod (pw i) + pw i) = t.tmod (pw i) + pw i := IntWalk.i64_in _ (by have := hs.2.2.1 hp; omega)
        clear e1 hs he h62
        go_wp2_with fail
        go_ret
        exact ⟨ret1_eq (int_eq E1.out.symm), rfl⟩
      · rw [if_neg hr] at e1
        have E1 := Lib.hid e1
        have hr' : decide (t.tmod (pw i) < 0) = false := decide_eq_false hr
        clear e1 hs he h62
        go_wp2_with fail
        go_ret
        exact ⟨ret1_eq (int_eq E1.out.symm), rfl⟩
end Go.Proofs.Ytbffpallhofonaa
