/- FiguresBack: the walk. -/
import Derived.Test.YthlampneheoedaaDoorLawD
namespace Go.Proofs.YthlampneheoedaaDoor
open Go.RowKit
set_option linter.unusedVariables false

theorem ptL_len {n width : Int} (hn : fits n) (h : ptE width = 0) : (ptL n width).length ≤ 100 := by
  have hw' : ¬ (width < 0 ∨ 20 < width) := by
    intro h'; unfold ptE at h; rw [if_pos h'] at h; cases h
  have hfit : n.natAbs ≤ 9223372036854775808 := by unfold fits at hn; omega
  have h19 : 9223372036854775808 < 10 ^ 19 := by decide
  have hdl := dec_len (k := 19) (u := n.natAbs) (by decide) (by omega)
  have hl : (pad width.toNat (Lib.decDigits n.natAbs)).length ≤ 20 := by rw [pad_len]; omega
  unfold ptL
  rw [if_neg hw']
  split
  · simp only [List.length_cons]; omega
  · omega
theorem pt_cases (width : Int) : ptE width = 0 ∨ ptE width = 1 := by unfold ptE; split; exact .inr rfl; exact .inl rfl
theorem small_max {l : List UInt8} (h : l.length ≤ 100) : (⟨l.toArray⟩ : ByteArray).size ≤ maxLen := by
  rw [Lib.size_mk]; unfold maxLen; omega

set_option maxRecDepth 100000 in
set_option maxHeartbeats 6400000 in
theorem back_walk (n width nano : Int) (w : World) (hn : fits n) (hw : fits width) (hm : fits nano) (ht : Tab w) :
    Calls Tryd.prog 7 #[.int .i64 n, .int .i64 width, .int .i64 nano] w fun e w' => e = .returned (.bool true) ∧ Below w.heap.size w w' := by
  have HA := Lib.hid (alive2 w ht)
  have HP := fun w1 (h : Below w.heap.size w w1) => Lib.hid (put_any n width w1 hn hw (ht.below h))
  have HG := fun w1 (h : Below w.heap.size w w1) => Lib.hid (putf_any nano 9 w1 hm (by decide) (ht.below h))
  have HS := fun w1 (h : Below w.heap.size w w1) => Lib.hid (short_any nano w1 hm (ht.below h))
  have hsg : (ptE width = 1) ∨ (ptE width = 0 ∧ ∀ w, RowKit.Hid (Calls Tryd.prog 18 #[.string ⟨(ptL n width).toArray⟩, .int .i64 20] w fun e w' => e = .returned (.tuple #[.int .i64 n, ev 0]) ∧ w = w')) := by
    rcases pt_cases width with h | h
    · refine .inr ⟨h, fun w => ?_⟩
      have h1 := signed_any ⟨(ptL n width).toArray⟩ 20 w (small_max (ptL_len hn h)) (by decide)
      obtain ⟨b1, b2⟩ := back_signed hn h
      simp only at h1
      rw [b1, b2] at h1
      exact h1
    · exact .inl h
  have hfr : (nf nano ∧ pfE nano 9 = 1 ∧ shE nano = 1) ∨ (¬ nf nano ∧ pfE nano 9 = 0 ∧ shE nano = 0 ∧
      (∀ w, RowKit.Hid (Calls Tryd.prog 20 #[.string ⟨(pfL nano 9).toArray⟩] w fun e w' => e = .returned (.tuple #[.int .i64 nano, ev 0]) ∧ w = w')) ∧
      ((shL nano = [] ∧ ∃ X : Int, (X == 0) = false ∧ ∀ w, RowKit.Hid (Calls Tryd.prog 20 #[.string ⟨#[]⟩] w fun e w' => e = .returned (.tuple #[.int .i64 nano, ev X]) ∧ w = w')) ∨
       (∃ b r, shL nano = b :: r ∧ ∀ w, RowKit.Hid (Calls Tryd.prog 20 #[.string ⟨(b :: r).toArray⟩] w fun e w' => e = .returned (.tuple #[.int .i64 nano, ev 0]) ∧ w = w')))) := by
    by_cases h : nf nano
    · obtain ⟨_, p2, _, p4⟩ := pf_no h 9
      exact .inl ⟨h, p2, p4⟩
    · obtain ⟨p1, p2, _, p4⟩ := pf_yes h 9
      obtain ⟨q1, q2⟩ := p4 (by omega)
      have hl := nine_len h
      have hpl : (pfL nano 9).length ≤ 100 := by rw [q1, List.length_take]; omega
      have hsl : (shL nano).length ≤ 100 := by
        have := congrArg List.length (trim_split (nine nano))
        rw [p1]; simp only [List.length_append] at this; omega
      refine .inr ⟨h, q2, p2, fun w => ?_, ?_⟩
      · have h1 := fraction_any ⟨(pfL nano 9).toArray⟩ w (small_max hpl)
        obtain ⟨b1, b2⟩ := back_nine h
        simp only at h1
        rw [b1, b2] at h1
        exact h1
      · have h1 := fun w => fraction_any ⟨(shL nano).toArray⟩ w (small_max hsl)
        obtain ⟨b1, b2⟩ := back_short h
        simp only at h1
        rw [b2] at h1
        cases hs : shL nano with
        | nil =>
          rw [hs] at b1 h1
          exact .inl ⟨rfl, _, b1, fun w => h1 w⟩
        | cons b r =>
          rw [hs] at b1 h1
          have e : frE (b :: r) = 0 := by simpa using b1
          rw [e] at h1
          exact .inr ⟨b, r, rfl, fun w => h1 w⟩
  have hc : nf nano → nano < 0 ∨ (¬ nano < 0 ∧ 999999999 < nano) := by intro h; unfold nf at h; omega
  have q0 := fun op t W x k => guard_ev op t W x k
  have q1 := fun W k => eql_ev W k
  have q2 := fun W k => neq_ev W k
  clear ht hn hw hm
  generalize ptL n width = PL at *
  generalize ptE width = PE at *
  generalize pfL nano 9 = FL at *
  generalize pfE nano 9 = FE at *
  generalize shL nano = SL at *
  generalize shE nano = SE at *
  have HSG := Lib.hid hsg; have HFR := Lib.hid hfr; have HC := Lib.hid hc
  clear hsg hfr hc
  go_enter Tryd.func7, Tryd.ntmps7
  go_wp2_with fail
  refine HA.out.mono ?_
  rintro e w1 ⟨rfl, hb1⟩
  have B1 := Lib.hid hb1; clear hb1
  go_wp2_with fail
  refine (HP _ B1.out).out.mono ?_
  rintro e w2 ⟨rfl, hb2⟩
  have B2 := Lib.hid (B1.out.trans (hb2.mono B1.out.size)); clear hb2 B1
  clear HP HA
  rcases HSG.out with rfl | ⟨rfl, HSI⟩
  · clear HSG
    go_wp2_with fail
    refine (HG _ B2.out).out.mono ?_
    rintro e w3 ⟨rfl, hb3⟩
    have B3 := Lib.hid (B2.out.trans (hb3.mono B2.out.size)); clear hb3 B2
    go_wp2_with fail
    refine (HS _ B3.out).out.mono ?_
    rintro e w4 ⟨rfl, hb4⟩
    have B4 := Lib.hid (B3.out.trans (hb4.mono B3.out.size)); clear hb4 B3
    clear HG HS
    rcases HFR.out with ⟨hnf, rfl, rfl⟩ | ⟨hnf, rfl, rfl, HF1, ⟨rfl, X, hX, HF2⟩ | ⟨b, r, rfl, HF2⟩⟩
    · rcases HC.out hnf with c1 | ⟨c1, c2⟩
      all_goals
        clear HC HFR hnf
        go_wp2_with fail
        go_ret
        exact ⟨rfl, B4.out⟩
    · clear HC HFR hnf
      go_wp2_with fail
      refine (HF1 _).out.mono ?_
      rintro e w' ⟨rfl, rfl⟩
      go_wp2_with fail
      refine (HF2 _).out.mono ?_
      rintro e w' ⟨rfl, rfl⟩
      go_wp2_with fail
      go_ret
      exact ⟨rfl, B4.out⟩
    · clear HC HFR hnf
      go_wp2_with fail
      refine (HF1 _).out.mono ?_
      rintro e w' ⟨rfl, rfl⟩
      go_wp2_with fail
      refine (HF2 _).out.mono ?_
      rintro e w' ⟨rfl, rfl⟩
      go_wp2_with fail
      go_ret
      exact ⟨rfl, B4.out⟩
  · clear HSG
    go_wp2_with fail
    refine (HSI _).out.mono ?_
    rintro e w' ⟨rfl, rfl⟩
    clear HSI
    go_wp2_with fail
    refine (HG _ B2.out).out.mono ?_
    rintro e w3 ⟨rfl, hb3⟩
    have B3 := Lib.hid (B2.out.trans (hb3.mono B2.out.size)); clear hb3 B2
    go_wp2_with fail
    refine (HS _ B3.out).out.mono ?_
    rintro e w4 ⟨rfl, hb4⟩
    have B4 := Lib.hid (B3.out.trans (hb4.mono B3.out.size)); clear hb4 B3
    clear HG HS
    rcases HFR.out with ⟨hnf, rfl, rfl⟩ | ⟨hnf, rfl, rfl, HF1, ⟨rfl, X, hX, HF2⟩ | ⟨b, r, rfl, HF2⟩⟩
    · rcases HC.out hnf with c1 | ⟨c1, c2⟩
      all_goals
        clear HC HFR hnf
        go_wp2_with fail
        go_ret
        exact ⟨rfl, B4.out⟩
    · clear HC HFR hnf
      go_wp2_with fail
      refine (HF1 _).out.mono ?_
      rintro e w' ⟨rfl, rfl⟩
      go_wp2_with fail
      refine (HF2 _).out.mono ?_
      rintro e w' ⟨rfl, rfl⟩
      go_wp2_with fail
      go_ret
      exact ⟨rfl, B4.out⟩
    · clear HC HFR hnf
      go_wp2_with fail
      refine (HF1 _).out.mono ?_
      rintro e w' ⟨rfl, rfl⟩
      go_wp2_with fail
      refine (HF2 _).out.mono ?_
      rintro e w' ⟨rfl, rfl⟩
      go_wp2_with fail
      go_ret
      exact ⟨rfl, B4.out⟩
end Go.Proofs.YthlampneheoedaaDoor
