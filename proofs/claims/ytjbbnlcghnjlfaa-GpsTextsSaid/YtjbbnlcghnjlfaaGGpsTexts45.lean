/- Merged: RefD. -/
import Derived.Test.YtjbbnlcghnjlfaaGGpsTexts44
namespace Go.Proofs.Ytjbbnlcghnjlfaa
open Go.RowKit
set_option linter.unusedVariables false

theorem small_vl (l : List UInt8) : bad (dv l : Nat) = vlE l mx ∧ sm (dv l : Nat) = (vlN l mx : Nat) := by
  have hm := mx_is
  unfold vlE vlN
  by_cases h : mx < dv l
  · have hf : ¬ fits ((dv l : Nat) : Int) := by unfold fits; omega
    rw [if_pos h, if_pos h, bad_no hf, sm_no hf]; exact ⟨rfl, rfl⟩
  · have hf : fits ((dv l : Nat) : Int) := by unfold fits; omega
    rw [if_neg h, if_neg h, bad_fit hf, sm_fit hf]; exact ⟨rfl, rfl⟩
/-- Where the bounds are in order: the number of figures that are taken. -/
theorem tk_in {l : List UInt8} {a b : Int} {lim n : Nat} (hR : tkR a b = false) (hn : tkk l b = n) :
    (((n : Int) < a) → tkE l a b lim = 2 ∧ tkN l a b lim = 0 ∧ tkK l a b lim = 0) ∧
    (¬ ((n : Int) < a) → tkE l a b lim = vlE (l.take n) lim ∧ tkN l a b lim = vlN (l.take n) lim ∧ tkK l a b lim = if vlE (l.take n) lim = 0 then n else 0) := by
  subst hn
  constructor
  · intro h
    have e : tkE l a b lim = 2 := by unfold tkE; rw [hR, if_neg (by decide), if_pos h]
    exact ⟨e, tk_no e (by decide)⟩
  · intro h
    have e : tkE l a b lim = vlE (l.take (tkk l b)) lim := by unfold tkE; rw [hR, if_neg (by decide), if_neg h]
    refine ⟨e, ?_, by unfold tkK; rw [e]⟩
    unfold tkN; rw [e]
    rcases vl_E (l.take (tkk l b)) lim with ⟨h1, h2, _⟩ | ⟨h1, h2, _⟩
    · rw [h1, h2]; rfl
    · rw [h1, h2]; rfl

theorem some_first (s : ByteArray) (n : Nat) (h : n ≤ s.size) (h20 : n ≤ 20) (hl : n ≤ lead s.data.toList) (w : World) :
    Calls Try.prog 33 #[.string (s.extract 0 n)] w fun e w' => ∃ v, e = .returned v ∧ BV w' v (dv (s.data.toList.take n) : Nat) 130 ∧ Below w.heap.size w w' := by
  have hv := rbig_any (s.extract 0 n) w (by rw [ByteArray.size_extract]; omega) (by rw [Lib.extract_upto]; exact lead_mem hl)
  rw [show (s.extract 0 n).data.toList = s.data.toList.take n by rw [Lib.extract_upto]] at hv
  exact hv

set_option maxRecDepth 100000 in
set_option maxHeartbeats 1600000 in
theorem rtake_any (s : ByteArray) (a b : Int) (w : World) (hs : s.size ≤ maxLen) (ha : fits a) (hb : fits b) :
    Calls Try.prog 64 #[.string s, .int .i64 a, .int .i64 b] w fun e w' =>
      e = .returned (.tuple #[.int .i64 (tkN s.data.toList a b mx : Nat), .int .i64 (tkK s.data.toList a b mx : Nat), .int .i64 (tkE s.data.toList a b mx)]) ∧ Below w.heap.size w w' := by
  cases hR : tkR a b
  · have hr' : ¬ a < 1 ∧ ¬ b < a ∧ ¬ 20 < b := by unfold tkR at hR; simp at hR; omega
    obtain ⟨h1, h2, h3⟩ := hr'
    obtain ⟨m, rfl⟩ := Int.eq_ofNat_of_zero_le (show 0 ≤ b by omega)
    have hM := Lib.hid (many_any s w hs)
    have hle := lead_le s.data.toList
    have hsz : s.data.toList.length = s.size := by simp
    obtain ⟨n, hn⟩ : ∃ n : Nat, n = tkk s.data.toList m := ⟨_, rfl⟩
    have hk : n = min (lead s.data.toList) m := by rw [hn]; unfold tkk; rfl
    obtain ⟨t1, t2⟩ := tk_in (l := s.data.toList) (lim := mx) hR hn.symm
    have hnl : n ≤ lead s.data.toList := by omega
    have hns : n ≤ s.size := by omega
    have hn20 : n ≤ 20 := by omega
    have HB := fun w => Lib.hid (some_first s n hns hn20 hnl w)
    obtain ⟨y1, y2⟩ := small_vl (s.data.toList.take n)
    obtain ⟨L, hL⟩ : ∃ L, L = lead s.data.toList := ⟨_, rfl⟩
    rw [← hL] at hM hk
    have hLs : L ≤ s.size := by omega
    generalize tkN s.data.toList a m mx = N at *
    generalize tkK s.data.toList a m mx = K at *
    generalize tkE s.data.toList a m mx = E at *
    rcases (by omega : (m < L ∧ n = m) ∨ (¬ m < L ∧ n = L)) with ⟨g1, rfl⟩ | ⟨g1, rfl⟩
    all_goals
      rcases (by omega : ((n : Int) < a) ∨ ¬ ((n : Int) < a)) with h4 | h4
      · obtain ⟨rfl, rfl, rfl⟩ := t1 h4
        clear t1 t2 y1 y2 HB hn hk hL hR hle hsz ha hb hnl
        go_enter Try.func64, Try.ntmps64
        go_wp2_with (go_at_call 32; refine hM.out.mono ?_; rintro e w' ⟨rfl, rfl⟩)
        go_ret3
        exact ⟨ret3_eq rfl rfl rfl, Below.refl _ _⟩
      · obtain ⟨rfl, rfl, hK⟩ := t2 h4
        have HY1 := Lib.hid y1; have HY2 := Lib.hid y2; have HK := Lib.hid hK
        rcases vl_E (s.data.toList.take n) mx with ⟨v1, v2, v3⟩ | ⟨v1, v2, v3⟩
        · have hKz : K = 0 := by rw [hK, v1]; rfl
          subst hKz
          rw [v1] at HY1; rw [v2] at HY2; rw [v1, v2]
          clear t1 t2 y1 y2 hK HK v1 v2 v3 hn hk hL hR hle hsz ha hb hnl
          go_enter Try.func64, Try.ntmps64
          go_wp2_with (first
            | (go_at_call 32; refine hM.out.mono ?_; rintro e w' ⟨rfl, rfl⟩)
            | (go_at_call 33; refine (HB _).out.mono ?_; rintro e w1 ⟨v, rfl, b1, hb1⟩; have V1 := Lib.hid b1; have B1 := Lib.hid hb1; clear b1 hb1)
            | (go_at_call 19; refine (small_any _ _ 130 _ V1.out (by decide)).mono ?_; rw [HY1.out, HY2.out]; rintro e w2 ⟨rfl, hb2⟩; have B2 := Lib.hid (B1.out.trans (hb2.mono B1.out.size)); clear hb2))
          go_ret3
          exact ⟨ret3_eq rfl rfl rfl, B2.out⟩
        · have hKz : n = K := by rw [hK, v1]; rfl
          subst hKz
          rw [v1] at HY1; rw [v1]
          generalize vlN (s.data.toList.take n) mx = N at *
          clear t1 t2 y1 y2 hK HK v1 v2 v3 hn hk hL hR hle hsz ha hb hnl
          go_enter Try.func64, Try.ntmps64
          go_wp2_with (first
            | (go_at_call 32; refine hM.out.mono ?_; rintro e w' ⟨rfl, rfl⟩)
            | (go_at_call 33; refine (HB _).out.mono ?_; rintro e w1 ⟨v, rfl, b1, hb1⟩; have V1 := Lib.hid b1; have B1 := Lib.hid hb1; clear b1 hb1)
            | (go_at_call 19; refine (small_any _ _ 130 _ V1.out (by decide)).mono ?_; rw [HY1.out, HY2.out]; rintro e w2 ⟨rfl, hb2⟩; have B2 := Lib.hid (B1.out.trans (hb2.mono B1.out.size)); clear hb2))
          go_ret3
          exact ⟨ret3_eq rfl rfl rfl, B2.out⟩
  · have e : tkE s.data.toList a b mx = 1 := by unfold tkE; rw [hR]; rfl
    obtain ⟨e1, e2⟩ := tk_no e (by decide)
    rw [e, e1, e2]; clear e e1 e2
    have hr' : a < 1 ∨ (¬ a < 1 ∧ b < a) ∨ (¬ a < 1 ∧ ¬ b < a ∧ 20 < b) := by unfold tkR at hR; simp at hR; omega
    clear hR
    rcases hr' with h1 | ⟨h1, h2⟩ | ⟨h1, h2, h3⟩
    all_goals
      go_enter Try.func64, Try.ntmps64
      go_wp2
      go_ret3
      exact ⟨rfl, Below.refl _ _⟩
end Go.Proofs.Ytjbbnlcghnjlfaa
