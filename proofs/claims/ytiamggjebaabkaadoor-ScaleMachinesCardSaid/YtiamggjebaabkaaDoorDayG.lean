/- The document's answer for days: Date. -/
import Derived.Test.YtiamggjebaabkaaDoorDayF
namespace Go.Proofs.YtiamggjebaabkaaDoor
open Go.RowKit
set_option linter.unusedVariables false

/-- Below the year's end lies a date whose month isn't over. -/
theorem month_left (y x : Int) (h1 : 1 ≤ x) (h2 : x ≤ 12) (r n : Int) (hn : r = n - st y - em y (x - 1)) (hr : n < st (y + 1)) : (¬ r ≥ ml y x) ∨ (r ≥ ml y x ∧ x < 12) := by
  by_cases c : r ≥ ml y x
  · refine Or.inr ⟨c, ?_⟩
    have e := em_succ y x
    rcases (by omega : x < 12 ∨ x = 12) with g | rfl
    · exact g
    · have k := em_yd y
      rw [st_succ] at hr
      omega
  · exact Or.inl c

set_option maxHeartbeats 4000000 in
theorem rdate_some (n y m d : Int) (w : World) (hd : Dt n y m d) :
    Calls Tryd.prog 39 #[.int .i64 n] w fun e w' => e = .returned (.tuple #[.int .i64 y, .int .i64 m, .int .i64 d]) ∧ Below w.heap.size w w' := by
  have hr := hd.range
  have DT := Lib.hid hd
  have hD := Lib.hid (fun y w => rdays_any y w)
  have hM := Lib.hid (fun y m w h h' => rmonth_any y m w h h')
  clear hd
  go_enter Tryd.func39, Tryd.ntmps39
  go_wp2
  go_loop [0, 5] (fun a b => ∃ r x : Int, a = .int .i64 r ∧ b = .int .i64 x ∧ -5000000 ≤ r ∧ r ≤ 5000000 ∧ -30000 ≤ x ∧ x ≤ 1970 ∧ Hid (r + st x = n)) (fun a _ => (-(intOf a)).toNat)
  case atStart => exact ⟨n, 1970, rfl, rfl, by omega, by omega, by omega, by omega, Lib.hid (by rw [st_1970]; omega)⟩
  case round =>
    obtain ⟨r, x, rfl, rfl, r1, r2, x1, x2, I⟩ := hrel
    by_cases hlt : r < 0
    · have I2 : Hid (r + 146097 + st (x - 400) = n) := Lib.hid (by have := st_cycle (x - 400); rw [show x - 400 + 400 = x by omega] at this; rw [← I.out]; omega)
      have bx : -29000 ≤ x := by have h0 := I.out; unfold st at h0; omega
      go_wp2
      go_round
      case rel => exact ⟨r + 146097, x - 400, rfl, rfl, by omega, by omega, by omega, by omega, I2⟩
      case measure => simp [intOf]; omega
    · have r0 : 0 ≤ r := by omega
      have r3 := r2
      have x3 := x1
      clear hlt r1 r2 x1 x2
      go_wp2
      go_loop [0, 5] (fun a b => ∃ r x : Int, a = .int .i64 r ∧ b = .int .i64 x ∧ 0 ≤ r ∧ r ≤ 5000000 ∧ Hid (r + st x = n)) (fun a _ => (intOf a).toNat)
      case atStart => exact ⟨r, x, rfl, rfl, r0, r3, I⟩
      case round =>
        clear I r0 r3 x3
        obtain ⟨r, x, rfl, rfl, r1, r2, I⟩ := hrel
        have x1 : -30000 ≤ x ∧ x ≤ 29000 := by have h0 := I.out; unfold st at h0; omega
        by_cases hge : r ≥ 146097
        · have I2 : Hid (r - 146097 + st (x + 400) = n) := Lib.hid (by have := st_cycle x; rw [← I.out]; omega)
          go_wp2
          go_round
          case rel => exact ⟨r - 146097, x + 400, rfl, rfl, by omega, by omega, I2⟩
          case measure => simp [intOf]; omega
        · clear x1
          go_wp2
          clear hge
          go_loop [0, 5] (fun a b => ∃ r x : Int, a = .int .i64 r ∧ b = .int .i64 x ∧ 0 ≤ r ∧ r ≤ 5000000 ∧ Hid (r + st x = n)) (fun a _ => (intOf a).toNat)
          case atStart => exact ⟨r, x, rfl, rfl, r1, r2, I⟩
          case round =>
            clear I r1 r2
            obtain ⟨r, x, rfl, rfl, r1, r2, I⟩ := hrel
            have x1 : -30000 ≤ x ∧ x ≤ 29000 := by have h0 := I.out; unfold st at h0; omega
            have hd := hD.out x
            have b := yd_bd x
            have sx := st_succ x
            have SX := Lib.hid sx
            clear sx
            obtain ⟨l, hl⟩ : ∃ l, l = yd x := ⟨_, rfl⟩
            have HL := Lib.hid hl
            rw [← hl] at hd b
            clear hl
            have HD := Lib.hid hd; clear hd
            by_cases hge : r ≥ l
            · have I2 : Hid (r - l + st (x + 1) = n) := Lib.hid (by rw [SX.out, ← HL.out, ← I.out]; omega)
              go_wp2_with (go_at_call 62; refine (HD.out _).mono ?_; rintro e w' ⟨rfl, rfl⟩)
              go_round
              case rel => exact ⟨r - l, x + 1, rfl, rfl, by omega, by omega, I2⟩
              case measure => simp [intOf]; omega
            · obtain ⟨rfl, hn1, hn2⟩ : x = y ∧ r = n - st x ∧ n < st (x + 1) := by
                have e := DT.out.ends
                have i := I.out; have s := SX.out; rw [← HL.out] at s
                refine ⟨?_, by omega, by omega⟩
                rcases (by omega : x < y ∨ y < x ∨ x = y) with g | g | g
                · have := st_mono (show x + 1 ≤ y by omega); omega
                · have := st_mono (show y + 1 ≤ x by omega); omega
                · exact g
              have N1 := Lib.hid hn1; have N2 := Lib.hid hn2
              clear hn1 hn2 I SX HL x1
              obtain ⟨r0, hr0⟩ : ∃ r0, r0 = r := ⟨_, rfl⟩
              have R0 := Lib.hid hr0
              clear hr0
              go_wp2_with (go_at_call 62; refine (HD.out _).mono ?_; rintro e w' ⟨rfl, rfl⟩)
              go_loopg [0, 6] (13 : Nat) (fun g a b wr => ∃ v z : Int, a = .int .i64 v ∧ b = .int .i64 z ∧ 1 ≤ z ∧ z ≤ 12 ∧ 12 - z ≤ g ∧ 0 ≤ v ∧ v ≤ 5000000 ∧ Hid (v = n - st x - em x (z - 1)) ∧ Hid (Below w.heap.size w wr))
              case atStart => exact ⟨r, 1, rfl, rfl, by omega, by omega, by omega, r1, r2, Lib.hid (by rw [show (1 : Int) - 1 = 0 by omega, em_zero]; have := N1.out; omega), Lib.hid (Below.refl _ _)⟩
              case round =>
                clear r1 r2 hge b N1 R0
                obtain ⟨v, z, rfl, rfl, z1, z2, hg, v1, v2, J, B⟩ := hrel
                have hm := hM.out x z
                have bm := ml_bd x z1 z2
                have es : Hid (em x z = em x (z - 1) + ml x z) := Lib.hid (em_succ x z)
                have mo := month_left x z z1 z2 v n J.out N2.out
                have hm' := fun w => hm w z1 z2
                clear hm
                have HM := Lib.hid hm'; clear hm'
                obtain ⟨q, hq⟩ : ∃ q, q = ml x z := ⟨_, rfl⟩
                have HQ := Lib.hid hq
                rw [← hq] at HM bm es mo
                clear hq
                rcases mo with hge | ⟨hge, hz⟩
                · go_wp2_with fail
                  refine (HM.out _).mono ?_
                  rintro e w1 ⟨rfl, hb⟩
                  have B2 := Lib.hid (B.out.trans (hb.mono B.out.size))
                  clear hb
                  go_wp2_with fail
                  have D : Dt n x z (v + 1) := ⟨DT.out.1, z1, z2, by omega, by rw [← HQ.out]; omega, by have := J.out; omega⟩
                  obtain ⟨_, e2, e3⟩ := D.one DT.out
                  go_ret3
                  exact ⟨ret3_eq rfl (int_eq e2) (int_eq e3), B2.out⟩
                · go_wp2_with fail
                  refine (HM.out _).mono ?_
                  rintro e w1 ⟨rfl, hb⟩
                  have B2 := Lib.hid (B.out.trans (hb.mono B.out.size))
                  clear hb
                  go_wp2_with fail
                  refine (HM.out _).mono ?_
                  rintro e w2 ⟨rfl, hb⟩
                  have B3 := Lib.hid (B2.out.trans (hb.mono B2.out.size))
                  clear hb
                  have J2 : Hid (v - q = n - st x - em x (z + 1 - 1)) := Lib.hid (by rw [show z + 1 - 1 = z by omega, es.out]; have := J.out; omega)
                  go_wp2_with fail
                  go_roundg (12 - (z + 1)).toNat
                  case measure => omega
                  case rel => exact ⟨v - q, z + 1, rfl, rfl, by omega, by omega, by omega, by omega, by omega, J2, B3⟩

end Go.Proofs.YtiamggjebaabkaaDoor
