/- NumRing, the walk. -/
import Derived.Test.YteanpnmgdfflcaaNumC
import Derived.Outline
import Derived.Deep.DeepCutAuto
import Derived.Deep.CutRange
namespace Go.Proofs.Yteanpnmgdfflcaa
open Go.RowKit
set_option linter.unusedVariables false

theorem back_one {a b : Int} (ha : fits a) (h : (bad (a + b) == 0) = true) : (bad (sm (a + b) - b) != 0) = false ∧ (sm (sm (a + b) - b) != a) = false := by
  have hf : fits (a + b) := by
    by_cases hf : fits (a + b)
    · exact hf
    · rw [bad_no hf] at h; exact absurd h (by decide)
  rw [sm_fit hf, show a + b - b = a from by omega, bad_fit ha, sm_fit ha]
  exact ⟨rfl, by simp⟩
theorem ring_one {a b c : Int} (h : (bad (a * b) == 0) = true) (h' : (bad (a * c) == 0) = true) (h'' : (bad (b + c) == 0) = true) :
    sm (a * b) + sm (a * c) = a * sm (b + c) := by
  have hf : ∀ z, (bad z == 0) = true → sm z = z := fun z hz => by
    by_cases hf : fits z
    · exact sm_fit hf
    · rw [bad_no hf] at hz; exact absurd hz (by decide)
  rw [hf _ h, hf _ h', hf _ h'', Int.mul_add]

set_option maxRecDepth 100000 in
set_option maxHeartbeats 1600000 in
theorem ring_walk (a b c : Int) (w : World) (ha : fits a) (hb : fits b) (hc : fits c) :
    Calls Try.prog 7 #[.int .i64 a, .int .i64 b, .int .i64 c] w fun e w' => e = .returned (.bool true) ∧ w = w' := by
  have hA := Lib.hid ha; have hB := Lib.hid hb; have hC := Lib.hid hc
  have b1 := bad_lo (a + b); have b2 := bad_lo (a * b); have b3 := bad_lo (a * c); have b4 := bad_lo (b + c)
  unfold fits at ha hb hc
  have q0 := fun op t x k => guard_ev op t w x k
  have q1 := fun k => eql_ev w k
  have q2 := fun k => neq_ev w k
  have c2 := Lib.hid (Int.add_comm b a); have c3 := Lib.hid (Int.mul_comm b a)
  go_enter Try.func7, Try.ntmps7
  go_wp2_with fail
  refine (alive_any _).mono ?_
  rintro e w' ⟨rfl, rfl⟩
  go_wp2_with fail
  refine (add_any _ _ _ hA.out hB.out).mono ?_
  rintro e w' ⟨rfl, rfl⟩
  go_wp2_with fail
  have HX := add_any b a w hB.out hA.out
  rw [c2.out] at HX
  have HY := Lib.hid HX; clear HX
  refine HY.out.mono ?_
  rintro e w' ⟨rfl, rfl⟩
  go_wp2_with fail
  refine (num_any _ _ (bad_lo _).1 (bad_lo _).2).mono ?_
  rintro e w' ⟨rfl, rfl⟩
  go_wp2_with fail
  refine (num_any _ _ (bad_lo _).1 (bad_lo _).2).mono ?_
  rintro e w' ⟨rfl, rfl⟩
  go_wp2_with fail
  refine (sub_any _ _ _ (sm_fits _) hB.out).mono ?_
  rintro e w' ⟨rfl, rfl⟩
  go_upto_region 8 with fail
  go_cut [65] (fun s wx => s = .bool false ∧ wx = w)
  case first =>
    cases h : (bad (a + b) == 0)
    · go_wp2
      go_meet
      exact ⟨rfl, rfl⟩
    · obtain ⟨h1, h2⟩ := back_one hA.out h
      go_wp2
      go_meet
      exact ⟨rfl, rfl⟩
  case rest =>
    obtain ⟨rfl, rfl⟩ := hcut
    go_wp2_with fail
    refine (mul_any _ _ _ hA.out hB.out).mono ?_
    rintro e w' ⟨rfl, rfl⟩
    go_wp2_with fail
    have HX := mul_any b a wc hB.out hA.out
    rw [c3.out] at HX
    have HZ := Lib.hid HX; clear HX
    refine HZ.out.mono ?_
    rintro e w' ⟨rfl, rfl⟩
    go_wp2_with fail
    refine (num_any _ _ (bad_lo _).1 (bad_lo _).2).mono ?_
    rintro e w' ⟨rfl, rfl⟩
    go_wp2_with fail
    refine (num_any _ _ (bad_lo _).1 (bad_lo _).2).mono ?_
    rintro e w' ⟨rfl, rfl⟩
    go_wp2_with fail
    refine (mul_any _ _ _ hA.out hC.out).mono ?_
    rintro e w' ⟨rfl, rfl⟩
    go_wp2_with fail
    refine (add_any _ _ _ hB.out hC.out).mono ?_
    rintro e w' ⟨rfl, rfl⟩
    go_upto_region 16 with fail
    go_cut [109] (fun s wx => s = .bool (bad (a * b) == 0 && bad (a * c) == 0 && bad (b + c) == 0) ∧ wx = wc)
    case first =>
      cases h1 : (bad (a * b) == 0)
      · go_wp2
        go_meet
        exact ⟨bool_eq (by rw [h1]; rfl), rfl⟩
      · cases h2 : (bad (a * c) == 0)
        · go_wp2
          go_meet
          exact ⟨bool_eq (by rw [h1, h2]; rfl), rfl⟩
        · go_wp2
          go_meet
          exact ⟨bool_eq (by rw [h1, h2]; rfl), rfl⟩
    case rest =>
      obtain ⟨rfl, rfl⟩ := hcut
      go_upto_if 109 with fail
      go_cut [] (fun wx => wx = wc)
      case first =>
        cases hT : (bad (a * b) == 0 && bad (a * c) == 0 && bad (b + c) == 0)
        · go_wp2
          go_meet
          rfl
        · have hT' := hT
          simp only [Bool.and_eq_true] at hT'
          have c4 := Lib.hid (ring_one hT'.1.1 hT'.1.2 hT'.2)
          clear hT'
          go_wp2_with fail
          have HX := add_any (sm (a * b)) (sm (a * c)) wc (sm_fits _) (sm_fits _)
          rw [c4.out] at HX
          have HU := Lib.hid HX; clear HX
          refine HU.out.mono ?_
          rintro e w' ⟨rfl, rfl⟩
          go_wp2_with fail
          refine (mul_any _ _ _ hA.out (sm_fits _)).mono ?_
          rintro e w' ⟨rfl, rfl⟩
          go_wp2_with fail
          refine (num_any _ _ (bad_lo _).1 (bad_lo _).2).mono ?_
          rintro e w' ⟨rfl, rfl⟩
          go_wp2_with fail
          refine (num_any _ _ (bad_lo _).1 (bad_lo _).2).mono ?_
          rintro e w' ⟨rfl, rfl⟩
          go_wp2
          go_meet
          rfl
      case rest =>
        subst hcut
        have e1 := dq_fit a b
        go_wp2_with fail
        refine (div_all _ _ _ hA.out hB.out).mono ?_
        rintro e w' ⟨rfl, rfl⟩
        go_wp2_with fail
        refine (mod_all _ _ _ hA.out hB.out).mono ?_
        rintro e w' ⟨rfl, rfl⟩
        cases h1 : (de a b == 0)
        · have h1' : (de a b != 0) = true := by simp only [bne, h1]; rfl
          have hl := last_no hA.out hB.out (.inl h1)
          have HL := Lib.hid hl; clear hl
          rcases HL.out with rfl | ⟨h0, h2, h3⟩
          · go_wp2
            go_ret
            exact ⟨rfl, rfl⟩
          · subst h2 h3
            go_wp2
            go_ret
            exact ⟨rfl, rfl⟩
        · have h1' : (de a b != 0) = false := by simp only [bne, h1]; rfl
          cases h2 : (me b == 0)
          · have h2' : (me b != 0) = true := by simp only [bne, h2]; rfl
            have HL := Lib.hid (last_no hA.out hB.out (.inr h2))
            rcases HL.out with rfl | ⟨h0, h2, h3⟩
            · go_wp2
              go_ret
              exact ⟨rfl, rfl⟩
            · subst h2 h3
              go_wp2
              go_ret
              exact ⟨rfl, rfl⟩
          · have h2' : (me b != 0) = false := by simp only [bne, h2]; rfl
            obtain ⟨h0, h3, h4⟩ := last_yes h1 h2
            have HW := wrap_last h3 hA.out
            have HH := Lib.hid h3; clear h3
            have HV : (a == wrap64 (wrap64 (b * dq a b) + mr a b)) = true := by rw [HW]; simp
            clear HW
            rcases h4 with h4 | ⟨h4, h5⟩
            · have h6 : (mr a b == 0) = true := by simp [h4]
              clear h4
              go_wp2
              go_ret
              exact ⟨rfl, rfl⟩
            · have h6 : (mr a b == 0) = false := by simp [h4]
              have h7 : (decide (mr a b < 0) == decide (b < 0)) = true := by simp [h5]
              clear h4 h5
              go_wp2
              go_ret
              exact ⟨rfl, rfl⟩
end Go.Proofs.Yteanpnmgdfflcaa
