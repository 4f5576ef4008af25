/- FiguresFractions, FiguresBack: the walks. -/
import Derived.Test.YthlampneheoedaaDoorLawC
namespace Go.Proofs.YthlampneheoedaaDoor
open Go.RowKit
set_option linter.unusedVariables false

theorem pf_no {nano : Int} (h : nf nano) (many : Int) : pfL nano many = [] ∧ pfE nano many = 1 ∧ shL nano = [] ∧ shE nano = 1 := by
  unfold pfL pfE shL shE
  rw [if_pos (.inl h), if_pos (.inl h), if_pos h, if_pos h]
  exact ⟨rfl, rfl, rfl, rfl⟩
theorem pf_yes {nano : Int} (h : ¬ nf nano) (many : Int) : shL nano = Lib.trimRightB (nine nano) 48 ∧ shE nano = 0 ∧
    ((many < 0 ∨ 9 < many) → pfL nano many = [] ∧ pfE nano many = 1) ∧ (¬ (many < 0 ∨ 9 < many) → pfL nano many = (nine nano).take many.toNat ∧ pfE nano many = 0) := by
  unfold pfL pfE shL shE
  refine ⟨if_neg h, if_neg h, fun k => ⟨if_pos (.inr k), if_pos (.inr k)⟩, fun k => ⟨if_neg ?_, if_neg ?_⟩⟩
  · rintro (h' | h'); exact h h'; exact k h'
  · rintro (h' | h'); exact h h'; exact k h'

set_option maxRecDepth 100000 in
set_option maxHeartbeats 3200000 in
theorem fractions_no (s : ByteArray) (nano many : Int) (w : World) (hs : s.size ≤ maxLen) (hn : fits nano) (hm : fits many) (ht : Tab w) (hnf : nf nano) :
    Calls Tryd.prog 6 #[.string s, .int .i64 nano, .int .i64 many] w fun e w' => e = .returned (.bool true) ∧ Below w.heap.size w w' := by
  have HA := Lib.hid (alive2 w ht)
  have HF := fun w => Lib.hid (fraction_any s w hs)
  have HR := fun w => Lib.hid (rfraction_any s w hs)
  have E1 := Lib.hid (frE_lo s.data.toList)
  have HP := fun w1 (h : Below w.heap.size w w1) => Lib.hid (putf_any nano many w1 hn hm (ht.below h))
  have HS := fun w1 (h : Below w.heap.size w w1) => Lib.hid (short_any nano w1 hn (ht.below h))
  obtain ⟨p1, p2, p3, p4⟩ := pf_no hnf many
  rw [p1, p2] at HP
  rw [p3, p4] at HS
  generalize frN s.data.toList = N1 at *
  generalize frE s.data.toList = X1 at *
  have hc : nano < 0 ∨ (¬ nano < 0 ∧ 999999999 < nano) := by unfold nf at hnf; omega
  unfold maxLen at hs
  clear ht hn hm hnf p1 p2 p3 p4
  by_cases h300 : (s.size : Int) > 300
  · clear HF HR E1 HP HS hc
    go_enter Tryd.func6, Tryd.ntmps6
    go_wp2_with (go_at_call 8; refine HA.out.mono ?_; rintro e w1 ⟨rfl, hb1⟩; have B1 := Lib.hid hb1; clear hb1)
    go_ret
    exact ⟨rfl, B1.out⟩
  · rcases hc with h1 | ⟨h1, h2⟩
    all_goals
      go_enter Tryd.func6, Tryd.ntmps6
      go_wp2_with fail
      refine HA.out.mono ?_
      rintro e w1 ⟨rfl, hb1⟩
      have B1 := Lib.hid hb1; clear hb1
      go_wp2_with fail
      refine (HF _).out.mono ?_
      rintro e w' ⟨rfl, rfl⟩
      go_wp2_with fail
      refine (HR _).out.mono ?_
      rintro e w' ⟨rfl, rfl⟩
      go_wp2_with fail
      refine (num_any _ _ E1.out.1 E1.out.2).mono ?_
      rintro e w' ⟨rfl, rfl⟩
      go_wp2_with fail
      refine (HP _ B1.out).out.mono ?_
      rintro e w2 ⟨rfl, hb2⟩
      have B2 := Lib.hid (B1.out.trans (hb2.mono B1.out.size)); clear hb2 B1
      go_wp2_with fail
      refine (HS _ B2.out).out.mono ?_
      rintro e w3 ⟨rfl, hb3⟩
      have B3 := Lib.hid (B2.out.trans (hb3.mono B2.out.size)); clear hb3 B2
      go_wp2_with (go_at_call 24; refine (is_any _ _ _ (by decide) (by decide)).mono ?_; rintro e w' ⟨rfl, rfl⟩)
      go_ret
      exact ⟨rfl, B3.out⟩

set_option maxRecDepth 100000 in
set_option maxHeartbeats 800000 in
theorem fractions_long (s : ByteArray) (nano many : Int) (w : World) (hs : s.size ≤ maxLen) (h300 : (s.size : Int) > 300) (ht : Tab w) :
    Calls Tryd.prog 6 #[.string s, .int .i64 nano, .int .i64 many] w fun e w' => e = .returned (.bool true) ∧ Below w.heap.size w w' := by
  have HA := Lib.hid (alive2 w ht)
  unfold maxLen at hs
  clear ht
  go_enter Tryd.func6, Tryd.ntmps6
  go_wp2_with (go_at_call 8; refine HA.out.mono ?_; rintro e w1 ⟨rfl, hb1⟩; have B1 := Lib.hid hb1; clear hb1)
  go_ret
  exact ⟨rfl, B1.out⟩

/-- Where the loop from the end stands still. -/
theorem trim_at {D : List UInt8} {k : Nat} (hk : k ≤ D.length) (h : ∀ (j : Nat) b, k ≤ j → D[j]? = some b → b = 48) (h2 : ∀ b, 0 < k → D[k - 1]? = some b → b ≠ 48) : D.take k = Lib.trimRightB D 48 :=
  (Lib.trimRightB_take D 48 k hk h h2).symm

set_option maxRecDepth 100000 in
set_option maxHeartbeats 6400000 in
theorem fractions_yes (s : ByteArray) (k : Nat) (many : Int) (w : World) (hs : s.size ≤ maxLen) (hs3 : ¬ (s.size : Int) > 300) (hm : fits many) (ht : Tab w) (hk : k ≤ 999999999) :
    Calls Tryd.prog 6 #[.string s, .int .i64 k, .int .i64 many] w fun e w' => e = .returned (.bool true) ∧ Below w.heap.size w w' := by
  have hnf : ¬ nf (k : Int) := by unfold nf; omega
  have HA := Lib.hid (alive2 w ht)
  have HF := fun w => Lib.hid (fraction_any s w hs)
  have HR := fun w => Lib.hid (rfraction_any s w hs)
  have E1 := Lib.hid (frE_lo s.data.toList)
  have HP := fun w1 (h : Below w.heap.size w w1) => Lib.hid (putf_any k many w1 (by unfold fits; omega) hm (ht.below h))
  have HS := fun w1 (h : Below w.heap.size w w1) => Lib.hid (short_any k w1 (by unfold fits; omega) (ht.below h))
  have HW := fun w => Lib.hid (raw_any k 9 w (by omega) (by decide))
  obtain ⟨p1, p2, p3, p4⟩ := pf_yes hnf many
  have hl := nine_len hnf
  have e9 : pad 9 (Lib.decDigits k) = nine (k : Int) := by unfold nine; rfl
  rw [e9] at HW
  rw [p1, p2] at HS
  clear p1 p2 e9 hnf ht hm
  generalize nine (k : Int) = D at *
  generalize frN s.data.toList = N1 at *
  generalize frE s.data.toList = X1 at *
  unfold maxLen at hs
  obtain ⟨Z, hZ⟩ : ∃ Z : ByteArray, Z = ⟨D.toArray⟩ := ⟨_, rfl⟩
  obtain ⟨U, hU⟩ : ∃ U : ByteArray, U = ⟨(Lib.trimRightB D 48).toArray⟩ := ⟨_, rfl⟩
  rw [← hZ] at HW
  rw [← hU] at HS
  have hz9 : Z.size = 9 := by rw [hZ, Lib.size_mk]; exact hl
  have HZ := Lib.hid hZ; have HU := Lib.hid hU; have HL := Lib.hid hl
  have HZ9 := Lib.hid hz9
  have hzle : Z.size ≤ 9 := by omega
  have hzge : 9 ≤ Z.size := by omega
  have hzd : ∀ j (hj : j < Z.size), D[j]? = some Z[j] := fun j hj => by
    subst hZ
    rw [List.getElem?_eq_getElem (by rw [hl]; omega)]; rfl
  have HZD := Lib.hid hzd
  clear hZ hU hl hz9 hzd
  have q0 := fun op t W x k => guard_ev op t W x k
  have q1 := fun W k => eql_ev W k
  have q2 := fun W k => neq_ev W k
  have hc : (many < 0 ∧ pfL k many = [] ∧ pfE k many = 1) ∨ (¬ many < 0 ∧ 9 < many ∧ pfL k many = [] ∧ pfE k many = 1) ∨
      (∃ M : Nat, many = M ∧ M ≤ 9 ∧ pfL k many = D.take M ∧ pfE k many = 0) := by
    by_cases h1 : many < 0
    · exact .inl ⟨h1, p3 (.inl h1)⟩
    · by_cases h2 : 9 < many
      · exact .inr (.inl ⟨h1, h2, p3 (.inr h2)⟩)
      · obtain ⟨a, b⟩ := p4 (by omega)
        exact .inr (.inr ⟨many.toNat, by omega, by omega, a, b⟩)
  clear p3 p4
  generalize pfL k many = PL at *
  generalize pfE k many = PE at *
  have HC := Lib.hid hc; clear hc
  go_enter Tryd.func6, Tryd.ntmps6
  go_wp2_with fail
  refine HA.out.mono ?_
  rintro e w1 ⟨rfl, hb1⟩
  have B1 := Lib.hid hb1; clear hb1
  go_wp2_with fail
  refine (HF _).out.mono ?_
  rintro e w' ⟨rfl, rfl⟩
  go_wp2_with fail
  refine (HR _).out.mono ?_
  rintro e w' ⟨rfl, rfl⟩
  go_wp2_with fail
  refine (num_any _ _ E1.out.1 E1.out.2).mono ?_
  rintro e w' ⟨rfl, rfl⟩
  go_wp2_with fail
  refine (HP _ B1.out).out.mono ?_
  rintro e w2 ⟨rfl, hb2⟩
  have B2 := Lib.hid (B1.out.trans (hb2.mono B1.out.size)); clear hb2 B1
  go_wp2_with fail
  refine (HS _ B2.out).out.mono ?_
  rintro e w3 ⟨rfl, hb3⟩
  have B3 := Lib.hid (B2.out.trans (hb3.mono B2.out.size)); clear hb3 B2
  go_wp2_with fail
  refine (HW _).out.mono ?_
  rintro e w4 ⟨rfl, hb4⟩
  have B4 := Lib.hid (B3.out.trans (hb4.mono B3.out.size)); clear hb4 B3
  clear HF HR E1 HP HS HW HA
  go_wp2_with fail
  go_loop [15] (fun v => ∃ j : Nat, j ≤ 9 ∧ v = .int .i64 j ∧ RowKit.Hid (∀ (i : Nat) b, j ≤ i → D[i]? = some b → b = 48)) (fun v => (intOf v).toNat)
  case atStart => exact ⟨9, by omega, rfl, fun i b h1 h2 => by
    have h3 := (List.getElem?_eq_some_iff.1 h2).1
    have := HL.out
    omega⟩
  case round =>
    obtain ⟨j, hj, rfl, HJ⟩ := hrel
    by_cases hj0 : 0 < j
    · obtain ⟨i, rfl⟩ : ∃ i : Nat, j = i + 1 := ⟨j - 1, by omega⟩
      have hi : i < Z.size := by omega
      cases hc : ((Z[i].toNat : Int) == 48)
      · have he : Z.extract 0 (i + 1) = U := by
          rw [HZ.out, HU.out, Lib.extract_upto]
          have h48 : Z[i] ≠ 48 := fun e => by rw [e] at hc; exact absurd hc (by decide)
          rw [trim_at (D := D) (k := i + 1) (by rw [HL.out]; exact hj) HJ.out (fun b _ hb => by
            rw [Nat.add_sub_cancel, HZD.out i hi] at hb
            rw [← Option.some.inj hb]; exact h48)]
        have hj9 : i + 1 ≤ Z.size := by omega
        rcases HC.out with ⟨c1, rfl, rfl⟩ | ⟨c1, c2, rfl, rfl⟩ | ⟨M, rfl, hM, rfl, rfl⟩
        · clear HC HZ HU HL HZD HJ
          go_wp2_with (go_at_call 24; refine (is_any _ _ _ (by decide) (by decide)).mono ?_; rintro e w' ⟨rfl, rfl⟩)
          go_ret
          exact ⟨rfl, B4.out⟩
        · clear HC HZ HU HL HZD HJ
          go_wp2_with (go_at_call 24; refine (is_any _ _ _ (by decide) (by decide)).mono ?_; rintro e w' ⟨rfl, rfl⟩)
          go_ret
          exact ⟨rfl, B4.out⟩
        · have he2 : Z.extract 0 M = ⟨(D.take M).toArray⟩ := by rw [HZ.out, Lib.extract_upto]
          have hM2 : M ≤ Z.size := by rw [HZ9.out]; exact hM
          clear HC HZ HU HL HZD HJ
          go_wp2_with fail
          go_ret
          exact ⟨rfl, B4.out⟩
      · have HJ' : RowKit.Hid (∀ (m : Nat) b, i ≤ m → D[m]? = some b → b = 48) := fun m b hm hb => by
          rcases Nat.eq_or_lt_of_le hm with rfl | h
          · rw [HZD.out i hi] at hb
            rw [← Option.some.inj hb]
            exact UInt8.toNat_inj.1 (by have := beq_iff_eq.1 hc; show Z[i].toNat = 48; omega)
          · exact HJ.out m b h hb
        clear HJ HC HZ HU HL HZD
        go_wp2_with fail
        go_round
        case rel => exact ⟨i, by omega, by go_num, HJ'⟩
        case measure => simp [intOf]
    · have he : Z.extract 0 j = U := by
        rw [HZ.out, HU.out, Lib.extract_upto]
        rw [trim_at (D := D) (k := j) (by omega) HJ.out (fun b h => absurd h hj0)]
      have hj9 : j ≤ Z.size := by omega
      rcases HC.out with ⟨c1, rfl, rfl⟩ | ⟨c1, c2, rfl, rfl⟩ | ⟨M, rfl, hM, rfl, rfl⟩
      · clear HC HZ HU HL HZD HJ
        go_wp2_with (go_at_call 24; refine (is_any _ _ _ (by decide) (by decide)).mono ?_; rintro e w' ⟨rfl, rfl⟩)
        go_ret
        exact ⟨rfl, B4.out⟩
      · clear HC HZ HU HL HZD HJ
        go_wp2_with (go_at_call 24; refine (is_any _ _ _ (by decide) (by decide)).mono ?_; rintro e w' ⟨rfl, rfl⟩)
        go_ret
        exact ⟨rfl, B4.out⟩
      · have he2 : Z.extract 0 M = ⟨(D.take M).toArray⟩ := by rw [HZ.out, Lib.extract_upto]
        have hM2 : M ≤ Z.size := by rw [HZ9.out]; exact hM
        clear HC HZ HU HL HZD HJ
        go_wp2_with fail
        go_ret
        exact ⟨rfl, B4.out⟩
end Go.Proofs.YthlampneheoedaaDoor
