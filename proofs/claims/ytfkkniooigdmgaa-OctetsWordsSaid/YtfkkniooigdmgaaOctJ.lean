/- lists: what words of one size are listed. (Written by gen4.py.) -/
import Derived.Test.YtfkkniooigdmgaaOctI
namespace Go.Proofs.Ytfkkniooigdmgaa
open Go.RowKit Go.WideShapes Go.ChangeShapes
set_option linter.unusedVariables false

theorem rm_cases {N S : Nat} {at_ many : Int} (h : rm N at_ many S ≠ 0) :
    (rm N at_ many S = 1 ∧ (at_ < 0 ∨ (N : Int) < at_ ∨ many < 0)) ∨ (rm N at_ many S = 4 ∧ 0 ≤ at_ ∧ at_ ≤ N ∧ 0 ≤ many ∧ ((N : Int) - at_) / S < many) := by
  unfold rm at h ⊢
  by_cases g : at_ < 0 ∨ (N : Int) < at_ ∨ many < 0
  · rw [if_pos g]; exact .inl ⟨rfl, g⟩
  · rw [if_neg g] at h ⊢
    by_cases k : ((N : Int) - at_) / S < many
    · rw [if_pos k]; exact .inr ⟨rfl, by omega, by omega, by omega, k⟩
    · rw [if_neg k] at h; exact absurd rfl h
theorem gv_part {l : List UInt8} {a i S k : Nat} (hS : S = 1 ∨ S = 2 ∨ S = 4 ∨ S = 8) (h : a + k * S ≤ l.length) (hi : i < k) :
    rm l.length ((a + i * S : Nat) : Int) 1 S = 0 ∧ gv l ((a + i * S : Nat) : Int) S = ebv (((l.drop a).drop (i * S)).take S) := by
  have h1 : (i + 1) * S ≤ k * S := Nat.mul_le_mul_right S hi
  have h2 : (i + 1) * S = i * S + S := Nat.succ_mul i S
  have e1 : rm l.length ((a + i * S : Nat) : Int) 1 S = 0 := rm_fits (k := 1) hS (by omega)
  refine ⟨e1, ?_⟩
  unfold gv
  rw [← rm_swap hS] at e1
  rw [pm_zero e1, List.drop_drop]
set_option maxHeartbeats 1600000 in
set_option maxRecDepth 100000 in
theorem lists8_any (A : Option Addr) (l : List UInt8) (c : Nat) (at_ many : Int) (w : World) (h : Rb w A l) (hA : A = none → c = 0) (hc : l.length ≤ c) (hl : l.length ≤ 300) (ha : fits at_) (hm : fits many) :
    Calls Try.prog 28 #[.slice A l.length c, .int .i64 at_, .int .i64 many, .int .i64 1] w fun e w' => e = .returned (.bool true) ∧ Below w.heap.size w w' := by
  by_cases hz : rm l.length at_ many 1 = 0
  · obtain ⟨a, k, rfl, rfl, h2⟩ := rm_many (by omega) hz
    have hlist := list8_yes A l c a k w h hA hc (by omega) ha hm hz
    rw [Int.toNat_natCast, Int.toNat_natCast] at hlist
    have hget : ∀ W i, Below w.heap.size w W → i < k → Calls Try.prog 24 #[.slice A l.length c, .int .i64 ((a : Int) + (i : Int)), .int .i64 1] W fun e w' =>
        e = .returned (.tuple #[.int .u64 (ebv (((l.drop a).drop (i * 1)).take 1) : Nat), .int .i64 0]) ∧ W = w' := by
      intro W i hB hi
      obtain ⟨e1, e2⟩ := gv_part (l := l) (a := a) (i := i) (S := 1) (k := k) (by omega) (by omega) hi
      have := rget_any A l c ((a + i * 1 : Nat) : Int) 1 W (h.below hB) hA hc (by omega) (by unfold fits; omega) (by omega)
      rw [e1, e2, show ((a + i * 1 : Nat) : Int) = (a : Int) + (i : Int) by omega] at this
      exact this
    have hwl : (wl (l.drop a) 1 k).length = k := wl_len _ _ _
    have hat : ∀ i (hi : i < (wl (l.drop a) 1 k).length), (wl (l.drop a) 1 k)[i] = (ebv (((l.drop a).drop (i * 1)).take 1) : Int) := fun i hi => wl_at _ _ _ _ (by rw [wl_len] at hi; exact hi)
    have hval : ∀ i, ebv (((l.drop a).drop (i * 1)).take 1) < 256 := fun i => Nat.lt_of_lt_of_le (ebv_lt _) (Nat.pow_le_pow_right (by decide) (List.length_take_le _ _))
    have HLI := Lib.hid hlist; have HGE := Lib.hid hget; have HAT := Lib.hid hat; have HV := Lib.hid hval; have HWL := Lib.hid hwl
    have hk : k ≤ 300 ∧ a ≤ l.length ∧ a + k * 1 ≤ l.length := by omega
    obtain ⟨hk1, hk2, hk3⟩ := hk
    have hd1 : decide (l.length < k) = false := decide_eq_false (by omega)
    have hd2 : decide (l.length < a) = false := decide_eq_false (by omega)
    clear hlist hget hat hval hwl hz h2 h hA
    generalize wl (l.drop a) 1 k = Z at *
    generalize l.length = N at *
    go_enter Try.func28, Try.ntmps28
    go_wp2_with (go_at_call 51; refine HLI.out.mono ?_; rintro e w2 ⟨g, _, rfl, hk', hb'⟩; have HK := Lib.hid hk'; have HB := Lib.hid hb'; clear hk' hb')
    go_loop [72] (fun i => ∃ j : Nat, j ≤ k ∧ i = .int .i64 j) (fun i => k - (intOf i).toNat)
    case atStart => exact ⟨0, Nat.zero_le _, rfl⟩
    case round =>
      obtain ⟨j, hj, rfl⟩ := hrel
      by_cases hlt : j < k
      · have hx : j < Z.length := by rw [HWL.out]; exact hlt
        have hc2 := HK.out.cell (i := j) hx
        rw [HAT.out j hx] at hc2
        clear hx
        have hg := HGE.out w2 j HB.out hlt
        have hv := HV.out j
        generalize ebv (((l.drop a).drop (j * 1)).take 1) = v at *
        have HG := Lib.hid hg; clear hg
        have hw : IntKind.u64.wrap (v : Int) = (v : Int) := IntWalk.u64_in _ (by omega)
        go_wp2_with (go_at_call 24; refine HG.out.mono ?_; rintro e w' ⟨rfl, rfl⟩)
        go_round
        case rel => exact ⟨j + 1, by omega, by go_num⟩
        case measure => simp [intOf]; omega
      · obtain rfl : j = k := by omega
        go_wp2
        go_ret
        exact ⟨rfl, HB.out⟩
  · have hlist := list8_no A l c at_ many w h hA hc (by omega) ha hm hz
    have HLI := Lib.hid hlist
    clear hlist h hA
    rcases rm_cases hz with ⟨e1, hcs⟩ | ⟨e1, h1, h2, h3, h4⟩
    · rw [e1] at HLI
      clear e1 hz
      generalize l.length = N at *
      by_cases g1 : at_ < 0
      · clear hcs
        go_enter Try.func28, Try.ntmps28
        go_wp2_with (first | (go_at_call 51; refine HLI.out.mono ?_; rintro e w' ⟨rfl, rfl⟩) | (go_at_call 52; refine (is_any 1 1 _ (by decide) (by decide)).mono ?_; rintro e w' ⟨rfl, rfl⟩))
        go_ret
        exact ⟨rfl, Below.refl _ _⟩
      · by_cases g2 : (N : Int) < at_
        · clear hcs
          go_enter Try.func28, Try.ntmps28
          go_wp2_with (first | (go_at_call 51; refine HLI.out.mono ?_; rintro e w' ⟨rfl, rfl⟩) | (go_at_call 52; refine (is_any 1 1 _ (by decide) (by decide)).mono ?_; rintro e w' ⟨rfl, rfl⟩))
          go_ret
          exact ⟨rfl, Below.refl _ _⟩
        · have g3 : many < 0 := by omega
          clear hcs
          go_enter Try.func28, Try.ntmps28
          go_wp2_with (first | (go_at_call 51; refine HLI.out.mono ?_; rintro e w' ⟨rfl, rfl⟩) | (go_at_call 52; refine (is_any 1 1 _ (by decide) (by decide)).mono ?_; rintro e w' ⟨rfl, rfl⟩))
          go_ret
          exact ⟨rfl, Below.refl _ _⟩
    · rw [e1] at HLI
      clear e1 hz
      generalize l.length = N at *
      obtain ⟨a, rfl⟩ := Int.eq_ofNat_of_zero_le h1
      obtain ⟨k, rfl⟩ := Int.eq_ofNat_of_zero_le h3
      by_cases g1 : (N : Int) < k
      · clear h4
        go_enter Try.func28, Try.ntmps28
        go_wp2_with (first | (go_at_call 51; refine HLI.out.mono ?_; rintro e w' ⟨rfl, rfl⟩) | (go_at_call 52; refine (is_any 4 4 _ (by decide) (by decide)).mono ?_; rintro e w' ⟨rfl, rfl⟩))
        go_ret
        exact ⟨rfl, Below.refl _ _⟩
      · have g2 : (N : Int) - a < (k : Int) := by simp only [Int.cast_ofNat_Int] at h4; omega
        clear h4
        go_enter Try.func28, Try.ntmps28
        go_wp2_with (first | (go_at_call 51; refine HLI.out.mono ?_; rintro e w' ⟨rfl, rfl⟩) | (go_at_call 52; refine (is_any 4 4 _ (by decide) (by decide)).mono ?_; rintro e w' ⟨rfl, rfl⟩))
        go_ret
        exact ⟨rfl, Below.refl _ _⟩
set_option maxHeartbeats 1600000 in
set_option maxRecDepth 100000 in
theorem lists16_any (A : Option Addr) (l : List UInt8) (c : Nat) (at_ many : Int) (w : World) (h : Rb w A l) (hA : A = none → c = 0) (hc : l.length ≤ c) (hl : l.length ≤ 300) (ha : fits at_) (hm : fits many) :
    Calls Try.prog 31 #[.slice A l.length c, .int .i64 at_, .int .i64 many, .int .i64 2] w fun e w' => e = .returned (.bool true) ∧ Below w.heap.size w w' := by
  by_cases hz : rm l.length at_ many 2 = 0
  · obtain ⟨a, k, rfl, rfl, h2⟩ := rm_many (by omega) hz
    have hlist := list16_yes A l c a k w h hA hc (by omega) ha hm hz
    rw [Int.toNat_natCast, Int.toNat_natCast] at hlist
    have hget : ∀ W i, Below w.heap.size w W → i < k → Calls Try.prog 24 #[.slice A l.length c, .int .i64 ((a : Int) + (i : Int) * 2), .int .i64 2] W fun e w' =>
        e = .returned (.tuple #[.int .u64 (ebv (((l.drop a).drop (i * 2)).take 2) : Nat), .int .i64 0]) ∧ W = w' := by
      intro W i hB hi
      obtain ⟨e1, e2⟩ := gv_part (l := l) (a := a) (i := i) (S := 2) (k := k) (by omega) (by omega) hi
      have := rget_any A l c ((a + i * 2 : Nat) : Int) 2 W (h.below hB) hA hc (by omega) (by unfold fits; omega) (by omega)
      rw [e1, e2, show ((a + i * 2 : Nat) : Int) = (a : Int) + (i : Int) * 2 by omega] at this
      exact this
    have hwl : (wl (l.drop a) 2 k).length = k := wl_len _ _ _
    have hat : ∀ i (hi : i < (wl (l.drop a) 2 k).length), (wl (l.drop a) 2 k)[i] = (ebv (((l.drop a).drop (i * 2)).take 2) : Int) := fun i hi => wl_at _ _ _ _ (by rw [wl_len] at hi; exact hi)
    have hval : ∀ i, ebv (((l.drop a).drop (i * 2)).take 2) < 65536 := fun i => Nat.lt_of_lt_of_le (ebv_lt _) (Nat.pow_le_pow_right (by decide) (List.length_take_le _ _))
    have HLI := Lib.hid hlist; have HGE := Lib.hid hget; have HAT := Lib.hid hat; have HV := Lib.hid hval; have HWL := Lib.hid hwl
    have hk : k ≤ 300 ∧ a ≤ l.length ∧ a + k * 2 ≤ l.length := by omega
    obtain ⟨hk1, hk2, hk3⟩ := hk
    have hd1 : decide (l.length < k) = false := decide_eq_false (by omega)
    have hd2 : decide (l.length < a) = false := decide_eq_false (by omega)
    clear hlist hget hat hval hwl hz h2 h hA
    generalize wl (l.drop a) 2 k = Z at *
    generalize l.length = N at *
    go_enter Try.func31, Try.ntmps31
    go_wp2_with (go_at_call 53; refine HLI.out.mono ?_; rintro e w2 ⟨g, _, rfl, hk', hb'⟩; have HK := Lib.hid hk'; have HB := Lib.hid hb'; clear hk' hb')
    go_loop [72] (fun i => ∃ j : Nat, j ≤ k ∧ i = .int .i64 j) (fun i => k - (intOf i).toNat)
    case atStart => exact ⟨0, Nat.zero_le _, rfl⟩
    case round =>
      obtain ⟨j, hj, rfl⟩ := hrel
      by_cases hlt : j < k
      · have hx : j < Z.length := by rw [HWL.out]; exact hlt
        have hc2 := HK.out.cell (i := j) hx
        rw [HAT.out j hx] at hc2
        clear hx
        have hg := HGE.out w2 j HB.out hlt
        have hv := HV.out j
        generalize ebv (((l.drop a).drop (j * 2)).take 2) = v at *
        have HG := Lib.hid hg; clear hg
        have hw : IntKind.u64.wrap (v : Int) = (v : Int) := IntWalk.u64_in _ (by omega)
        go_wp2_with (go_at_call 24; refine HG.out.mono ?_; rintro e w' ⟨rfl, rfl⟩)
        go_round
        case rel => exact ⟨j + 1, by omega, by go_num⟩
        case measure => simp [intOf]; omega
      · obtain rfl : j = k := by omega
        go_wp2
        go_ret
        exact ⟨rfl, HB.out⟩
  · have hlist := list16_no A l c at_ many w h hA hc (by omega) ha hm hz
    have HLI := Lib.hid hlist
    clear hlist h hA
    rcases rm_cases hz with ⟨e1, hcs⟩ | ⟨e1, h1, h2, h3, h4⟩
    · rw [e1] at HLI
      clear e1 hz
      generalize l.length = N at *
      by_cases g1 : at_ < 0
      · clear hcs
        go_enter Try.func31, Try.ntmps31
        go_wp2_with (first | (go_at_call 53; refine HLI.out.mono ?_; rintro e w' ⟨rfl, rfl⟩) | (go_at_call 52; refine (is_any 1 1 _ (by decide) (by decide)).mono ?_; rintro e w' ⟨rfl, rfl⟩))
        go_ret
        exact ⟨rfl, Below.refl _ _⟩
      · by_cases g2 : (N : Int) < at_
        · clear hcs
          go_enter Try.func31, Try.ntmps31
          go_wp2_with (first | (go_at_call 53; refine HLI.out.mono ?_; rintro e w' ⟨rfl, rfl⟩) | (go_at_call 52; refine (is_any 1 1 _ (by decide) (by decide)).mono ?_; rintro e w' ⟨rfl, rfl⟩))
          go_ret
          exact ⟨rfl, Below.refl _ _⟩
        · have g3 : many < 0 := by omega
          clear hcs
          go_enter Try.func31, Try.ntmps31
          go_wp2_with (first | (go_at_call 53; refine HLI.out.mono ?_; rintro e w' ⟨rfl, rfl⟩) | (go_at_call 52; refine (is_any 1 1 _ (by decide) (by decide)).mono ?_; rintro e w' ⟨rfl, rfl⟩))
          go_ret
          exact ⟨rfl, Below.refl _ _⟩
    · rw [e1] at HLI
      clear e1 hz
      generalize l.length = N at *
      obtain ⟨a, rfl⟩ := Int.eq_ofNat_of_zero_le h1
      obtain ⟨k, rfl⟩ := Int.eq_ofNat_of_zero_le h3
      by_cases g1 : (N : Int) < k
      · clear h4
        go_enter Try.func31, Try.ntmps31
        go_wp2_with (first | (go_at_call 53; refine HLI.out.mono ?_; rintro e w' ⟨rfl, rfl⟩) | (go_at_call 52; refine (is_any 4 4 _ (by decide) (by decide)).mono ?_; rintro e w' ⟨rfl, rfl⟩))
        go_ret
        exact ⟨rfl, Below.refl _ _⟩
      · have g2 : (N : Int) - a < (k : Int) * 2 := by simp only [Int.cast_ofNat_Int] at h4; omega
        clear h4
        go_enter Try.func31, Try.ntmps31
        go_wp2_with (first | (go_at_call 53; refine HLI.out.mono ?_; rintro e w' ⟨rfl, rfl⟩) | (go_at_call 52; refine (is_any 4 4 _ (by decide) (by decide)).mono ?_; rintro e w' ⟨rfl, rfl⟩))
        go_ret
        exact ⟨rfl, Below.refl _ _⟩
set_option maxHeartbeats 1600000 in
set_option maxRecDepth 100000 in
theorem lists32_any (A : Option Addr) (l : List UInt8) (c : Nat) (at_ many : Int) (w : World) (h : Rb w A l) (hA : A = none → c = 0) (hc : l.length ≤ c) (hl : l.length ≤ 300) (ha : fits at_) (hm : fits many) :
    Calls Try.prog 35 #[.slice A l.length c, .int .i64 at_, .int .i64 many, .int .i64 4] w fun e w' => e = .returned (.bool true) ∧ Below w.heap.size w w' := by
  by_cases hz : rm l.length at_ many 4 = 0
  · obtain ⟨a, k, rfl, rfl, h2⟩ := rm_many (by omega) hz
    have hlist := list32_yes A l c a k w h hA hc (by omega) ha hm hz
    rw [Int.toNat_natCast, Int.toNat_natCast] at hlist
    have hget : ∀ W i, Below w.heap.size w W → i < k → Calls Try.prog 24 #[.slice A l.length c, .int .i64 ((a : Int) + (i : Int) * 4), .int .i64 4] W fun e w' =>
        e = .returned (.tuple #[.int .u64 (ebv (((l.drop a).drop (i * 4)).take 4) : Nat), .int .i64 0]) ∧ W = w' := by
      intro W i hB hi
      obtain ⟨e1, e2⟩ := gv_part (l := l) (a := a) (i := i) (S := 4) (k := k) (by omega) (by omega) hi
      have := rget_any A l c ((a + i * 4 : Nat) : Int) 4 W (h.below hB) hA hc (by omega) (by unfold fits; omega) (by omega)
      rw [e1, e2, show ((a + i * 4 : Nat) : Int) = (a : Int) + (i : Int) * 4 by omega] at this
      exact this
    have hwl : (wl (l.drop a) 4 k).length = k := wl_len _ _ _
    have hat : ∀ i (hi : i < (wl (l.drop a) 4 k).length), (wl (l.drop a) 4 k)[i] = (ebv (((l.drop a).drop (i * 4)).take 4) : Int) := fun i hi => wl_at _ _ _ _ (by rw [wl_len] at hi; exact hi)
    have hval : ∀ i, ebv (((l.drop a).drop (i * 4)).take 4) < 4294967296 := fun i => Nat.lt_of_lt_of_le (ebv_lt _) (Nat.pow_le_pow_right (by decide) (List.length_take_le _ _))
    have HLI := Lib.hid hlist; have HGE := Lib.hid hget; have HAT := Lib.hid hat; have HV := Lib.hid hval; have HWL := Lib.hid hwl
    have hk : k ≤ 300 ∧ a ≤ l.length ∧ a + k * 4 ≤ l.length := by omega
    obtain ⟨hk1, hk2, hk3⟩ := hk
    have hd1 : decide (l.length < k) = false := decide_eq_false (by omega)
    have hd2 : decide (l.length < a) = false := decide_eq_false (by omega)
    clear hlist hget hat hval hwl hz h2 h hA
    generalize wl (l.drop a) 4 k = Z at *
    generalize l.length = N at *
    go_enter Try.func35, Try.ntmps35
    go_wp2_with (go_at_call 20; refine HLI.out.mono ?_; rintro e w2 ⟨g, _, rfl, hk', hb'⟩; have HK := Lib.hid hk'; have HB := Lib.hid hb'; clear hk' hb')
    go_loop [72] (fun i => ∃ j : Nat, j ≤ k ∧ i = .int .i64 j) (fun i => k - (intOf i).toNat)
    case atStart => exact ⟨0, Nat.zero_le _, rfl⟩
    case round =>
      obtain ⟨j, hj, rfl⟩ := hrel
      by_cases hlt : j < k
      · have hx : j < Z.length := by rw [HWL.out]; exact hlt
        have hc2 := HK.out.cell (i := j) hx
        rw [HAT.out j hx] at hc2
        clear hx
        have hg := HGE.out w2 j HB.out hlt
        have hv := HV.out j
        generalize ebv (((l.drop a).drop (j * 4)).take 4) = v at *
        have HG := Lib.hid hg; clear hg
        have hw : IntKind.u64.wrap (v : Int) = (v : Int) := IntWalk.u64_in _ (by omega)
        go_wp2_with (go_at_call 24; refine HG.out.mono ?_; rintro e w' ⟨rfl, rfl⟩)
        go_round
        case rel => exact ⟨j + 1, by omega, by go_num⟩
        case measure => simp [intOf]; omega
      · obtain rfl : j = k := by omega
        go_wp2
        go_ret
        exact ⟨rfl, HB.out⟩
  · have hlist := list32_no A l c at_ many w h hA hc (by omega) ha hm hz
    have HLI := Lib.hid hlist
    clear hlist h hA
    rcases rm_cases hz with ⟨e1, hcs⟩ | ⟨e1, h1, h2, h3, h4⟩
    · rw [e1] at HLI
      clear e1 hz
      generalize l.length = N at *
      by_cases g1 : at_ < 0
      · clear hcs
        go_enter Try.func35, Try.ntmps35
        go_wp2_with (first | (go_at_call 20; refine HLI.out.mono ?_; rintro e w' ⟨rfl, rfl⟩) | (go_at_call 52; refine (is_any 1 1 _ (by decide) (by decide)).mono ?_; rintro e w' ⟨rfl, rfl⟩))
        go_ret
        exact ⟨rfl, Below.refl _ _⟩
      · by_cases g2 : (N : Int) < at_
        · clear hcs
          go_enter Try.func35, Try.ntmps35
          go_wp2_with (first | (go_at_call 20; refine HLI.out.mono ?_; rintro e w' ⟨rfl, rfl⟩) | (go_at_call 52; refine (is_any 1 1 _ (by decide) (by decide)).mono ?_; rintro e w' ⟨rfl, rfl⟩))
          go_ret
          exact ⟨rfl, Below.refl _ _⟩
        · have g3 : many < 0 := by omega
          clear hcs
          go_enter Try.func35, Try.ntmps35
          go_wp2_with (first | (go_at_call 20; refine HLI.out.mono ?_; rintro e w' ⟨rfl, rfl⟩) | (go_at_call 52; refine (is_any 1 1 _ (by decide) (by decide)).mono ?_; rintro e w' ⟨rfl, rfl⟩))
          go_ret
          exact ⟨rfl, Below.refl _ _⟩
    · rw [e1] at HLI
      clear e1 hz
      generalize l.length = N at *
      obtain ⟨a, rfl⟩ := Int.eq_ofNat_of_zero_le h1
      obtain ⟨k, rfl⟩ := Int.eq_ofNat_of_zero_le h3
      by_cases g1 : (N : Int) < k
      · clear h4
        go_enter Try.func35, Try.ntmps35
        go_wp2_with (first | (go_at_call 20; refine HLI.out.mono ?_; rintro e w' ⟨rfl, rfl⟩) | (go_at_call 52; refine (is_any 4 4 _ (by decide) (by decide)).mono ?_; rintro e w' ⟨rfl, rfl⟩))
        go_ret
        exact ⟨rfl, Below.refl _ _⟩
      · have g2 : (N : Int) - a < (k : Int) * 4 := by simp only [Int.cast_ofNat_Int] at h4; omega
        clear h4
        go_enter Try.func35, Try.ntmps35
        go_wp2_with (first | (go_at_call 20; refine HLI.out.mono ?_; rintro e w' ⟨rfl, rfl⟩) | (go_at_call 52; refine (is_any 4 4 _ (by decide) (by decide)).mono ?_; rintro e w' ⟨rfl, rfl⟩))
        go_ret
        exact ⟨rfl, Below.refl _ _⟩
set_option maxHeartbeats 1600000 in
set_option maxRecDepth 100000 in
theorem lists64_any (A : Option Addr) (l : List UInt8) (c : Nat) (at_ many : Int) (w : World) (h : Rb w A l) (hA : A = none → c = 0) (hc : l.length ≤ c) (hl : l.length ≤ 300) (ha : fits at_) (hm : fits many) :
    Calls Try.prog 37 #[.slice A l.length c, .int .i64 at_, .int .i64 many, .int .i64 8] w fun e w' => e = .returned (.bool true) ∧ Below w.heap.size w w' := by
  by_cases hz : rm l.length at_ many 8 = 0
  · obtain ⟨a, k, rfl, rfl, h2⟩ := rm_many (by omega) hz
    have hlist := list64_yes A l c a k w h hA hc (by omega) ha hm hz
    rw [Int.toNat_natCast, Int.toNat_natCast] at hlist
    have hget : ∀ W i, Below w.heap.size w W → i < k → Calls Try.prog 24 #[.slice A l.length c, .int .i64 ((a : Int) + (i : Int) * 8), .int .i64 8] W fun e w' =>
        e = .returned (.tuple #[.int .u64 (ebv (((l.drop a).drop (i * 8)).take 8) : Nat), .int .i64 0]) ∧ W = w' := by
      intro W i hB hi
      obtain ⟨e1, e2⟩ := gv_part (l := l) (a := a) (i := i) (S := 8) (k := k) (by omega) (by omega) hi
      have := rget_any A l c ((a + i * 8 : Nat) : Int) 8 W (h.below hB) hA hc (by omega) (by unfold fits; omega) (by omega)
      rw [e1, e2, show ((a + i * 8 : Nat) : Int) = (a : Int) + (i : Int) * 8 by omega] at this
      exact this
    have hwl : (wl (l.drop a) 8 k).length = k := wl_len _ _ _
    have hat : ∀ i (hi : i < (wl (l.drop a) 8 k).length), (wl (l.drop a) 8 k)[i] = (ebv (((l.drop a).drop (i * 8)).take 8) : Int) := fun i hi => wl_at _ _ _ _ (by rw [wl_len] at hi; exact hi)
    have hval : ∀ i, ebv (((l.drop a).drop (i * 8)).take 8) < 18446744073709551616 := fun i => Nat.lt_of_lt_of_le (ebv_lt _) (Nat.pow_le_pow_right (by decide) (List.length_take_le _ _))
    have HLI := Lib.hid hlist; have HGE := Lib.hid hget; have HAT := Lib.hid hat; have HV := Lib.hid hval; have HWL := Lib.hid hwl
    have hk : k ≤ 300 ∧ a ≤ l.length ∧ a + k * 8 ≤ l.length := by omega
    obtain ⟨hk1, hk2, hk3⟩ := hk
    have hd1 : decide (l.length < k) = false := decide_eq_false (by omega)
    have hd2 : decide (l.length < a) = false := decide_eq_false (by omega)
    clear hlist hget hat hval hwl hz h2 h hA
    generalize wl (l.drop a) 8 k = Z at *
    generalize l.length = N at *
    go_enter Try.func37, Try.ntmps37
    go_wp2_with (go_at_call 54; refine HLI.out.mono ?_; rintro e w2 ⟨g, _, rfl, hk', hb'⟩; have HK := Lib.hid hk'; have HB := Lib.hid hb'; clear hk' hb')
    go_loop [72] (fun i => ∃ j : Nat, j ≤ k ∧ i = .int .i64 j) (fun i => k - (intOf i).toNat)
    case atStart => exact ⟨0, Nat.zero_le _, rfl⟩
    case round =>
      obtain ⟨j, hj, rfl⟩ := hrel
      by_cases hlt : j < k
      · have hx : j < Z.length := by rw [HWL.out]; exact hlt
        have hc2 := HK.out.cell (i := j) hx
        rw [HAT.out j hx] at hc2
        clear hx
        have hg := HGE.out w2 j HB.out hlt
        have hv := HV.out j
        generalize ebv (((l.drop a).drop (j * 8)).take 8) = v at *
        have HG := Lib.hid hg; clear hg
        have hw : IntKind.u64.wrap (v : Int) = (v : Int) := IntWalk.u64_in _ (by omega)
        go_wp2_with (go_at_call 24; refine HG.out.mono ?_; rintro e w' ⟨rfl, rfl⟩)
        go_round
        case rel => exact ⟨j + 1, by omega, by go_num⟩
        case measure => simp [intOf]; omega
      · obtain rfl : j = k := by omega
        go_wp2
        go_ret
        exact ⟨rfl, HB.out⟩
  · have hlist := list64_no A l c at_ many w h hA hc (by omega) ha hm hz
    have HLI := Lib.hid hlist
    clear hlist h hA
    rcases rm_cases hz with ⟨e1, hcs⟩ | ⟨e1, h1, h2, h3, h4⟩
    · rw [e1] at HLI
      clear e1 hz
      generalize l.length = N at *
      by_cases g1 : at_ < 0
      · clear hcs
        go_enter Try.func37, Try.ntmps37
        go_wp2_with (first | (go_at_call 54; refine HLI.out.mono ?_; rintro e w' ⟨rfl, rfl⟩) | (go_at_call 52; refine (is_any 1 1 _ (by decide) (by decide)).mono ?_; rintro e w' ⟨rfl, rfl⟩))
        go_ret
        exact ⟨rfl, Below.refl _ _⟩
      · by_cases g2 : (N : Int) < at_
        · clear hcs
          go_enter Try.func37, Try.ntmps37
          go_wp2_with (first | (go_at_call 54; refine HLI.out.mono ?_; rintro e w' ⟨rfl, rfl⟩) | (go_at_call 52; refine (is_any 1 1 _ (by decide) (by decide)).mono ?_; rintro e w' ⟨rfl, rfl⟩))
          go_ret
          exact ⟨rfl, Below.refl _ _⟩
        · have g3 : many < 0 := by omega
          clear hcs
          go_enter Try.func37, Try.ntmps37
          go_wp2_with (first | (go_at_call 54; refine HLI.out.mono ?_; rintro e w' ⟨rfl, rfl⟩) | (go_at_call 52; refine (is_any 1 1 _ (by decide) (by decide)).mono ?_; rintro e w' ⟨rfl, rfl⟩))
          go_ret
          exact ⟨rfl, Below.refl _ _⟩
    · rw [e1] at HLI
      clear e1 hz
      generalize l.length = N at *
      obtain ⟨a, rfl⟩ := Int.eq_ofNat_of_zero_le h1
      obtain ⟨k, rfl⟩ := Int.eq_ofNat_of_zero_le h3
      by_cases g1 : (N : Int) < k
      · clear h4
        go_enter Try.func37, Try.ntmps37
        go_wp2_with (first | (go_at_call 54; refine HLI.out.mono ?_; rintro e w' ⟨rfl, rfl⟩) | (go_at_call 52; refine (is_any 4 4 _ (by decide) (by decide)).mono ?_; rintro e w' ⟨rfl, rfl⟩))
        go_ret
        exact ⟨rfl, Below.refl _ _⟩
      · have g2 : (N : Int) - a < (k : Int) * 8 := by simp only [Int.cast_ofNat_Int] at h4; omega
        clear h4
        go_enter Try.func37, Try.ntmps37
        go_wp2_with (first | (go_at_call 54; refine HLI.out.mono ?_; rintro e w' ⟨rfl, rfl⟩) | (go_at_call 52; refine (is_any 4 4 _ (by decide) (by decide)).mono ?_; rintro e w' ⟨rfl, rfl⟩))
        go_ret
        exact ⟨rfl, Below.refl _ _⟩
end Go.Proofs.Ytfkkniooigdmgaa
