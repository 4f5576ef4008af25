/- The document's figures: Fraction, Big. -/
import Derived.Test.YthlampneheoedaaDoorRefA
import Derived.Test.YthlampneheoedaaDoorBigH
import Derived.Deep.DeepCutAuto
import Derived.Deep.CutRange
import Derived.Deep.RegionHeld3
import Derived.Deep.RegionWith
namespace Go.Proofs.YthlampneheoedaaDoor
open Go.RowKit
set_option linter.unusedVariables false

theorem fr_short {l : List UInt8} (h : l.length ≤ 9) : whE l 1 9 mx = if l.length = 0 ∨ lead l < l.length then 2 else 0 := by
  have hle := lead_le l
  have hk : tkk l 9 = lead l := by unfold tkk; show min (lead l) 9 = _; omega
  have hR : tkR 1 9 = false := rfl
  have hT : tkE l 1 9 mx = if lead l < 1 then 2 else 0 := by
    unfold tkE; rw [hR, hk]
    by_cases h1 : lead l < 1
    · rw [if_pos h1, if_neg (by decide), if_pos (by omega)]
    · rw [if_neg h1, if_neg (by decide), if_neg (by omega)]
      rcases vl_E (l.take (lead l)) mx with ⟨_, _, h3⟩ | ⟨h3, _, _⟩
      · exfalso
        have h4 := dv_lt (l := l.take (lead l)) (lead_mem (Nat.le_refl _))
        have h5 : 10 ^ (l.take (lead l)).length ≤ 10 ^ 9 := Nat.pow_le_pow_right (by decide) (by rw [List.length_take]; omega)
        have h6 : 10 ^ 9 ≤ mx := by decide
        omega
      · exact h3
  unfold whE tkK
  rw [hT, hk]
  by_cases h1 : lead l < 1
  · rw [if_pos h1, if_neg (by decide), if_pos (by omega)]
  · rw [if_neg h1, if_pos rfl]
    by_cases h2 : lead l < l.length
    · rw [if_pos rfl, if_pos h2, if_pos (.inr h2)]
    · rw [if_pos rfl, if_neg h2, if_neg (by omega)]

/-- What a figure at a place counts. -/
def un (i : Nat) : Nat := 10 ^ (9 - i) / 10
theorem un_step {i : Nat} (h : i < 9) : un (i + 1) = un i / 10 ∧ un i = 10 ^ (9 - (i + 1)) ∧ un i ≤ 100000000 := by
  unfold un
  rw [show 9 - i = (9 - (i + 1)) + 1 by omega, Nat.pow_succ, Nat.mul_div_cancel _ (by decide)]
  refine ⟨rfl, rfl, ?_⟩
  show 10 ^ (9 - (i + 1)) ≤ 10 ^ 8
  exact Nat.pow_le_pow_right (by decide) (by omega)

set_option maxRecDepth 100000 in
set_option maxHeartbeats 800000 in
theorem rfraction_any (s : ByteArray) (w : World) (hs : s.size ≤ maxLen) :
    Calls Tryd.prog 21 #[.string s] w fun e w' =>
      e = .returned (.tuple #[.int .i64 (frN s.data.toList), .int .i64 (frE s.data.toList)]) ∧ w = w' := by
  have hsz : s.data.toList.length = s.size := by simp
  have HM := fun w => Lib.hid (many_any s w hs)
  by_cases h9 : 9 < s.size
  · have hE : frE s.data.toList = 3 := by unfold frE; rw [hsz, if_pos h9]
    have hN : frN s.data.toList = 0 := by unfold frN; rw [hE]; rfl
    rw [hE, hN]; clear hE hN
    have h9' : ((s.size : Int) > 9) := by omega
    clear hsz HM
    unfold maxLen at hs
    go_enter Tryd.func21, Tryd.ntmps21
    go_wp2
    go_ret2
    exact ⟨rfl, rfl⟩
  · have hE : frE s.data.toList = if s.size = 0 ∨ lead s.data.toList < s.size then 2 else 0 := by
      unfold frE; rw [hsz, if_neg h9, fr_short (by omega), hsz]
    have hle := lead_le s.data.toList
    rw [hsz] at hle
    obtain ⟨n, hn⟩ : ∃ n : Nat, n = lead s.data.toList := ⟨_, rfl⟩
    rw [← hn] at HM hE hle
    by_cases hz : s.size = 0 ∨ n < s.size
    · rw [if_pos hz] at hE
      have hN : frN s.data.toList = 0 := by unfold frN; rw [hE]; rfl
      rw [hE, hN]; clear hE hN hn hsz hle
      rcases hz with hz | hz
      · have hz' : ((s.size : Int) == 0) = true := beq_iff_eq.mpr (by omega)
        have h9' : ¬ ((s.size : Int) > 9) := by omega
        clear hz h9 HM hs
        go_enter Tryd.func21, Tryd.ntmps21
        go_wp2
        go_ret2
        exact ⟨rfl, rfl⟩
      · have hz' : ((s.size : Int) == 0) = false := beq_eq_false_iff_ne.mpr (by omega)
        go_enter Tryd.func21, Tryd.ntmps21
        go_wp2_with (go_at_call 30; refine (HM _).out.mono ?_; rintro e w' ⟨rfl, rfl⟩)
        go_ret2
        exact ⟨rfl, rfl⟩
    · rw [if_neg hz] at hE
      have hN : frN s.data.toList = ((dv s.data.toList * 10 ^ (9 - s.size) : Nat) : Int) := by unfold frN; rw [hE, if_pos rfl, hsz]
      obtain ⟨R, hR⟩ : ∃ R, R = dv s.data.toList * 10 ^ (9 - s.size) := ⟨_, rfl⟩
      rw [← hR] at hN
      rw [hE, hN]
      have HR := Lib.hid hR; clear hE hN hR
      obtain rfl : n = s.size := by omega
      have hz' : ((s.size : Int) == 0) = false := beq_eq_false_iff_ne.mpr (by omega)
      have h9' : s.size ≤ 9 := by omega
      have hall : ∀ b ∈ s.data.toList, isd b = true := by
        have := lead_mem (l := s.data.toList) (k := s.data.toList.length) (by omega); rwa [List.take_of_length_le (Nat.le_refl _)] at this
      have HA := Lib.hid hall; have HSZ := Lib.hid hsz
      clear hz h9 hn hle hall hsz
      go_enter Tryd.func21, Tryd.ntmps21
      go_wp2_with (go_at_call 30; refine (HM _).out.mono ?_; rintro e w' ⟨rfl, rfl⟩)
      clear HM
      go_loop [4, 5, 6] (fun v u i => ∃ k N U : Nat, k ≤ s.size ∧ i = .int .i64 k ∧ RowKit.Hid (N = dv (s.data.toList.take k) * 10 ^ (9 - k)) ∧ v = .int .i64 N ∧ RowKit.Hid (U = un k) ∧ u = .int .i64 U) (fun _ _ i => s.size - (intOf i).toNat)
      case atStart => exact ⟨0, 0, 100000000, Nat.zero_le _, rfl, by show _ = _; simp [dv], rfl, by show _ = _; decide, rfl⟩
      case round =>
        obtain ⟨k, N, U, hk, rfl, HN, rfl, HU, rfl⟩ := hrel
        by_cases hlt : k < s.size
        · have hb := isd_bd (HA.out s[k] (by rw [← at_list s k hlt]; exact List.getElem_mem _))
          have hst := dv_step hlt
          obtain ⟨u1, u2, u3⟩ := un_step (i := k) (by omega)
          rw [← HU.out] at u1 u2 u3
          have HNN : RowKit.Hid (dv (s.data.toList.take (k + 1)) * 10 ^ (9 - (k + 1)) = N + U * (s[k].toNat - 48)) := by
            show _ = _
            rw [hst, HN.out, ← u2, show 9 - k = (9 - (k + 1)) + 1 by omega, Nat.pow_succ, ← u2, Nat.add_mul, Nat.mul_comm (s[k].toNat - 48) U]
            congr 1
            rw [Nat.mul_comm 10, Nat.mul_assoc, Nat.mul_comm 10 U]
          have hNb : N + U * (s[k].toNat - 48) ≤ 1000000000 := by
            rw [← HNN.out]
            have h1 := dv_lt (l := s.data.toList.take (k + 1)) fun b hb => HA.out b (List.mem_of_mem_take hb)
            have h2 : dv (s.data.toList.take (k + 1)) * 10 ^ (9 - (k + 1)) ≤ 10 ^ (s.data.toList.take (k + 1)).length * 10 ^ (9 - (k + 1)) := Nat.mul_le_mul_right _ (by omega)
            rw [← Nat.pow_add, List.length_take, HSZ.out, show min (k + 1) s.size + (9 - (k + 1)) = 9 by omega] at h2
            omega
          have hcast : ((U : Int) * ((s[k].toNat : Int) - 48)) = ((U * (s[k].toNat - 48) : Nat) : Int) := by
            rw [Int.natCast_mul]; congr 1; omega
          have hp0 : 0 ≤ (U : Int) * ((s[k].toNat : Int) - 48) := by rw [hcast]; omega
          have hp1 : (N : Int) + (U : Int) * ((s[k].toNat : Int) - 48) ≤ 1000000000 := by rw [hcast]; omega
          have HC := Lib.hid hcast
          have HU1 := Lib.hid u1
          clear hst u1 u2 hcast hNb
          go_wp2
          go_round
          case rel => exact ⟨k + 1, N + U * (s[k].toNat - 48), U / 10, by omega, by go_num, HNN.out.symm, by rw [HC.out]; congr 1, HU1.out.symm, by go_num⟩
          case measure => simp [intOf]; omega
        · have e : k = s.size := by omega
          subst e
          obtain rfl : R = N := by
            have h := HN.out
            rw [List.take_of_length_le (by rw [HSZ.out]; exact Nat.le_refl _)] at h; rw [h]; exact HR.out
          go_wp2
          go_ret2
          exact ⟨rfl, rfl⟩
end Go.Proofs.YthlampneheoedaaDoor
