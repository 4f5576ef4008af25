/- Merged: PosH. -/
import Derived.Test.YtkhcneacjnpcnaaGreatDoorGPosixChecks46
namespace Go.Proofs.YtkhcneacjnpcnaaGreatDoor
open Go.RowKit
set_option linter.unusedVariables false
set_option linter.unusedSimpArgs false

theorem nmL_len {n : List UInt8} (h : nmP n = true) : (nmL n).length ≤ 18 ∧ n.length ≤ 100 := by
  have := nmP_bd h
  exact ⟨nml_len h, by omega⟩
set_option maxHeartbeats 2000000 in
theorem put17_any (a : Pl) (w : World) (hT : Tab w) (hn : a.N.length ≤ 100000) (hs : a.S.length ≤ 100000) :
    Calls Tryz.prog 8 #[.agg a.cells] w fun x w' => x = .returned (.tuple #[.string ⟨(ptP a).toArray⟩, ev (plE a)]) ∧ Below w.heap.size w w' := by
  have HX := fun w => plcheck_any a w hn hs
  by_cases h : plE a = 0
  · have e1 : ptP a = plL a := if_pos h
    rw [e1, h]
    rw [h] at HX
    obtain ⟨hN, ho, ha, hc⟩ := plE_zero h
    have n1 := nmL_len hN
    have HN := fun w => nametext_any a.N w n1.2
    have HO := fun w t => offtext_any a.O w t ho
    have HC := fun w => changes_any a w hs
    have k1 := ckL_len (t := -a.O) (by omega)
    obtain ⟨S1, hS1⟩ : ∃ S, S = (⟨(nmL a.N).toArray⟩ : ByteArray) := ⟨_, rfl⟩
    obtain ⟨z1, l1⟩ := ba_size hS1
    obtain ⟨S2, hS2⟩ : ∃ S, S = (⟨(ckL (-a.O)).toArray⟩ : ByteArray) := ⟨_, rfl⟩
    obtain ⟨z2, l2⟩ := ba_size hS2
    rw [← hS1] at HN
    rw [← hS2] at HO
    have u1 : (⟨#[44]⟩ : ByteArray).size = 1 := rfl
    obtain ⟨X1, A1, g1, j1⟩ := add_ba S1 S2 (by omega) (by omega)
    rcases hc with ⟨s0, a0, b0, e0⟩ | ⟨s0, hS, hB, hE⟩
    · rw [decide_eq_true s0] at HC
      have HF : Value.string X1 = .string ⟨(plL a).toArray⟩ := str_is (by rw [g1, l1, l2]; unfold plL; rw [if_pos s0])
      rw [← HF]
      exact put17_f a S1 S2 S2 S2 S2 S2 X1 S2 S2 S2 S2 S2 S2 a.A (by simp) w hT (Lib.hid HX) (Lib.hid HN) (Lib.hid HO) A1 (Lib.hid HC)
    · rw [decide_eq_false s0] at HC
      have n2 := nmL_len hS
      have r1 := rul_len hB
      have r2 := rul_len hE
      have HS := fun w => nametext_any a.S w n2.2
      have HB := fun w t => ruletext_any a.B w t hB
      have HE := fun w t => ruletext_any a.E w t hE
      have HU : ∀ w, Calls Tryz.prog 21 #[.int .i64 a.O] w fun x w' => x = .returned (.int .i64 (a.O + 3600)) ∧ Below w.heap.size w w' := fun w => (usual_any a.O w (by omega)).mono (by rintro x w' ⟨rfl, rfl⟩; exact ⟨rfl, Below.refl _ _⟩)
      obtain ⟨S3, hS3⟩ : ∃ S, S = (⟨(nmL a.S).toArray⟩ : ByteArray) := ⟨_, rfl⟩
      obtain ⟨z3, l3⟩ := ba_size hS3
      obtain ⟨S5, hS5⟩ : ∃ S, S = (⟨(ruL a.B).toArray⟩ : ByteArray) := ⟨_, rfl⟩
      obtain ⟨z5, l5⟩ := ba_size hS5
      obtain ⟨S6, hS6⟩ : ∃ S, S = (⟨(ruL a.E).toArray⟩ : ByteArray) := ⟨_, rfl⟩
      obtain ⟨z6, l6⟩ := ba_size hS6
      rw [← hS3] at HS
      rw [← hS5] at HB
      rw [← hS6] at HE
      obtain ⟨X2, A2, g2, j2⟩ := add_ba X1 S3 (by omega) (by omega)
      by_cases q : a.A = a.O + 3600
      · obtain ⟨X4, A4, g4, j4⟩ := add_ba X2 ⟨#[44]⟩ (by omega) (by omega)
        obtain ⟨X5, A5, g5, j5⟩ := add_ba X4 S5 (by omega) (by omega)
        obtain ⟨X6, A6, g6, j6⟩ := add_ba X5 ⟨#[44]⟩ (by omega) (by omega)
        obtain ⟨X7, A7, g7, j7⟩ := add_ba X6 S6 (by omega) (by omega)
        have HF : Value.string X7 = .string ⟨(plL a).toArray⟩ := str_is (by
          rw [g7, g6, g5, g4, g2, g1, l1, l2, l3, l5, l6]; unfold plL adL; rw [if_neg s0, if_pos q]
          show _ ++ _ ++ _ ++ [44] ++ _ ++ [44] ++ _ = _
          simp [List.append_assoc])
        rw [← HF]
        exact put17_u a S1 S2 S3 S3 S5 S6 X1 X2 X2 X4 X5 X6 X7 (a.O + 3600) (ne_no q) w hT (Lib.hid HX) (Lib.hid HN) (Lib.hid HO) A1 (Lib.hid HC) (Lib.hid HS) A2 (Lib.hid HU) A4 A5 A6 A7 (Lib.hid HB) (Lib.hid HE)
      · have HA := fun w t => offtext_any a.A w t ha
        have k2 := ckL_len (t := -a.A) (by omega)
        obtain ⟨S4, hS4⟩ : ∃ S, S = (⟨(ckL (-a.A)).toArray⟩ : ByteArray) := ⟨_, rfl⟩
        obtain ⟨z4, l4⟩ := ba_size hS4
        rw [← hS4] at HA
        obtain ⟨X3, A3, g3, j3⟩ := add_ba X2 S4 (by omega) (by omega)
        obtain ⟨X4, A4, g4, j4⟩ := add_ba X3 ⟨#[44]⟩ (by omega) (by omega)
        obtain ⟨X5, A5, g5, j5⟩ := add_ba X4 S5 (by omega) (by omega)
        obtain ⟨X6, A6, g6, j6⟩ := add_ba X5 ⟨#[44]⟩ (by omega) (by omega)
        obtain ⟨X7, A7, g7, j7⟩ := add_ba X6 S6 (by omega) (by omega)
        have HF : Value.string X7 = .string ⟨(plL a).toArray⟩ := str_is (by
          rw [g7, g6, g5, g4, g3, g2, g1, l1, l2, l3, l4, l5, l6]; unfold plL adL; rw [if_neg s0, if_neg q]
          show _ ++ _ ++ _ ++ _ ++ [44] ++ _ ++ [44] ++ _ = _
          simp [List.append_assoc])
        rw [← HF]
        exact put17_t a S1 S2 S3 S4 S5 S6 X1 X2 X3 X4 X5 X6 X7 (a.O + 3600) (ne_yes q) w hT (Lib.hid HX) (Lib.hid HN) (Lib.hid HO) A1 (Lib.hid HC) (Lib.hid HS) A2 (Lib.hid HU) (Lib.hid HA) A3 A4 A5 A6 A7 (Lib.hid HB) (Lib.hid HE)
  · have e1 : ptP a = [] := if_neg h
    rw [e1]
    exact put17_bad a _ h w hT (Lib.hid HX)
end Go.Proofs.YtkhcneacjnpcnaaGreatDoor
