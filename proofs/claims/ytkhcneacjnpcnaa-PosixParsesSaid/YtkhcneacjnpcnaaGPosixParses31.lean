/- Merged: PosR. -/
import Derived.Test.YtkhcneacjnpcnaaGPosixParses21
import Derived.Test.YtkhcneacjnpcnaaGPosixParses30
namespace Go.Proofs.Ytkhcneacjnpcnaa
open Go.RowKit
set_option linter.unusedVariables false
set_option linter.unusedSimpArgs false

/-- Where bytes of a kind end. -/
theorem twl_at (p : UInt8 → Bool) (l : List UInt8) (k : Nat) :
    (∀ j (h : j < l.length), k ≤ j → j < k + ((l.drop k).takeWhile p).length → p l[j] = true) ∧ (∀ h : k + ((l.drop k).takeWhile p).length < l.length, p l[k + ((l.drop k).takeWhile p).length] = false) := by
  rw [← (tw_take p (l.drop k)).2]
  obtain ⟨n, hn⟩ : ∃ n, n = tw p (l.drop k) := ⟨_, rfl⟩
  rw [← hn]
  induction n generalizing k with
  | zero =>
    refine ⟨fun j h h1 h2 => by omega, fun h => ?_⟩
    have h' : k < l.length := h
    rw [tw_step h'] at hn
    show p l[k] = false
    cases c : p l[k] with
    | false => rfl
    | true => rw [c, if_pos rfl] at hn; omega
  | succ n ih =>
    have h' : k < l.length := by
      rcases Nat.lt_or_ge k l.length with h | h
      · exact h
      · rw [tw_end h] at hn; omega
    rw [tw_step h'] at hn
    cases c : p l[k] with
    | false => rw [c, if_neg (by decide)] at hn; omega
    | true =>
      rw [c, if_pos rfl] at hn
      obtain ⟨i1, i2⟩ := ih (k + 1) (by omega)
      have e : k + 1 + n = k + (n + 1) := by omega
      refine ⟨fun j h h1 h2 => ?_, fun h => ?_⟩
      · by_cases hj : j = k
        · subst hj; exact c
        · exact i1 j h (by omega) (by omega)
      · have := i2 (by omega)
        simp only [e] at this
        exact this
theorem twl_part (p : UInt8 → Bool) (s : ByteArray) (k : Nat) : (s.extract k (k + ((s.data.toList.drop k).takeWhile p).length)).data.toList = (s.data.toList.drop k).takeWhile p := by
  rw [Lib.extract_data]
  have : k + ((s.data.toList.drop k).takeWhile p).length - k = ((s.data.toList.drop k).takeWhile p).length := by omega
  rw [this, ← (tw_take p _).2, (tw_take p _).1]
theorem twl_le (p : UInt8 → Bool) (s : ByteArray) {k : Nat} (h : k ≤ s.size) : k + ((s.data.toList.drop k).takeWhile p).length ≤ s.size := by
  have a := twl_len p (s.data.toList.drop k)
  rw [List.length_drop, show s.data.toList.length = s.size by simp] at a
  omega

set_option maxHeartbeats 4000000 in
theorem dclock_any (s : ByteArray) (k : Nat) (w : World) (hk : k ≤ s.size) (hs : s.size ≤ 900) :
    Calls Try.prog 14 #[.string s, .int .i64 (k : Int)] w fun x w' => x = .returned (.int .i64 ((k + ((s.data.toList.drop k).takeWhile clB).length : Nat) : Int)) ∧ w = w' := by
  have hsz : s.data.toList.length = s.size := by simp
  obtain ⟨a1, a2⟩ := twl_at clB s.data.toList k
  have le := twl_le clB s hk
  obtain ⟨P, hP⟩ : ∃ P, P = k + ((s.data.toList.drop k).takeWhile clB).length := ⟨_, rfl⟩
  have kP : k ≤ P := by omega
  simp only [← hP] at a1 a2 le ⊢
  have HA : Hid (∀ j (h : j < s.size), k ≤ j → j < P → clB s[j] = true) := Lib.hid (fun j h h1 h2 => a1 j (by rw [hsz]; exact h) h1 h2)
  have HZ : Hid (∀ h : P < s.size, clB s[P] = false) := Lib.hid (fun h => a2 (by rw [hsz]; exact h))
  clear a1 a2 hP hsz
  go_enter Try.func14, Try.ntmps14
  go_wp2
  go_loop [1] (fun v => ∃ j : Nat, k ≤ j ∧ j ≤ P ∧ v = .int .i64 j) (fun v => P - (intOf v).toNat)
  case atStart => exact ⟨k, Nat.le_refl _, kP, rfl⟩
  case round =>
    obtain ⟨j, h1, h2, rfl⟩ := hrel
    by_cases hj : j < P
    · have hlt : j < s.size := by omega
      have hlt2 : decide (j < s.size) = true := decide_eq_true hlt
      have hc := HA.out j hlt h1 hj
      have HGG := Lib.hid (fun w => dfigure_any s[j] w)
      have b1 := (byte_eq s[j] 43).1
      have b2 := (byte_eq s[j] 45).1
      have b3 := (byte_eq s[j] 58).1
      rw [show ((43 : UInt8).toNat : Int) = 43 from rfl] at b1
      rw [show ((45 : UInt8).toNat : Int) = 45 from rfl] at b2
      rw [show ((58 : UInt8).toNat : Int) = 58 from rfl] at b3
      unfold clB at hc
      generalize isd s[j] = x1 at *
      generalize (s[j] == 43) = x2 at *
      generalize (s[j] == 45) = x3 at *
      generalize (s[j] == 58) = x4 at *
      clear HA HZ
      cases x1 with
      | true =>
        clear b1 b2 b3 hc
        go_wp2_with (go_at_call 31; refine (HGG.out _).mono ?_; rintro x w' ⟨rfl, rfl⟩)
        go_round
        case rel => exact ⟨j + 1, by omega, by omega, by go_num⟩
        case measure => simp [intOf]; omega
      | false =>
        cases x2 with
        | true =>
          clear b2 b3 hc
          go_wp2_with (go_at_call 31; refine (HGG.out _).mono ?_; rintro x w' ⟨rfl, rfl⟩)
          go_round
          case rel => exact ⟨j + 1, by omega, by omega, by go_num⟩
          case measure => simp [intOf]; omega
        | false =>
          cases x3 with
          | true =>
            clear b3 hc
            go_wp2_with (go_at_call 31; refine (HGG.out _).mono ?_; rintro x w' ⟨rfl, rfl⟩)
            go_round
            case rel => exact ⟨j + 1, by omega, by omega, by go_num⟩
            case measure => simp [intOf]; omega
          | false =>
            cases x4 with
            | true =>
              clear hc
              go_wp2_with (go_at_call 31; refine (HGG.out _).mono ?_; rintro x w' ⟨rfl, rfl⟩)
              go_round
              case rel => exact ⟨j + 1, by omega, by omega, by go_num⟩
              case measure => simp [intOf]; omega
            | false => cases hc
    · obtain rfl : j = P := by omega
      clear hj h2
      rcases Nat.lt_or_ge j s.size with hz | hz
      · have hlt2 : decide (j < s.size) = true := decide_eq_true hz
        have hc := HZ.out hz
        have HGG := Lib.hid (fun w => dfigure_any s[j] w)
        have b1 := (byte_eq s[j] 43).1
        have b2 := (byte_eq s[j] 45).1
        have b3 := (byte_eq s[j] 58).1
        rw [show ((43 : UInt8).toNat : Int) = 43 from rfl] at b1
        rw [show ((45 : UInt8).toNat : Int) = 45 from rfl] at b2
        rw [show ((58 : UInt8).toNat : Int) = 58 from rfl] at b3
        unfold clB at hc
        simp only [Bool.or_eq_false_iff] at hc
        obtain ⟨d1, d2, d3, d4⟩ := hc
        rw [d1] at HGG; rw [d2] at b1; rw [d3] at b2; rw [d4] at b3
        clear HA HZ d1 d2 d3 d4
        go_wp2_with (go_at_call 31; refine (HGG.out _).mono ?_; rintro x w' ⟨rfl, rfl⟩)
        go_ret
        exact ⟨rfl, rfl⟩
      · have hlt2 : decide (j < s.size) = false := decide_eq_false (by omega)
        clear HA HZ
        go_wp2
        go_ret
        exact ⟨rfl, rfl⟩
set_option maxHeartbeats 4000000 in
theorem dname_b1 (s X : ByteArray) (k Q : Nat) (w : World) (hs : s.size ≤ 900) (hk : k < s.size) (h60 : ((s[k].toNat : Int) == 60) = true) (kQ : k + 1 ≤ Q) (hQ : Q = s.size) (hX : s.extract (k + 1) Q = X)
    (HA : Hid (∀ j (h : j < s.size), k + 1 ≤ j → j < Q → ((s[j].toNat : Int) != 62) = true)) (HZ : Hid (∀ h : Q < s.size, ((s[Q].toNat : Int) != 62) = false))
    : Calls Try.prog 13 #[.string s, .int .i64 (k : Int)] w fun x w' => x = .returned (.tuple #[.string ⟨#[]⟩, .int .i64 (-1)]) ∧ w = w' := by
  have hk2 : decide (k < s.size) = true := decide_eq_true hk
  go_enter Try.func13, Try.ntmps13
  go_upto_region 3 with fail
  go_loop [6] (fun v => ∃ j : Nat, k + 1 ≤ j ∧ j ≤ Q ∧ v = .int .i64 j) (fun v => Q - (intOf v).toNat)
  case atStart => exact ⟨k + 1, Nat.le_refl _, kQ, by go_num⟩
  case round =>
    obtain ⟨j, h1, h2, rfl⟩ := hrel
    by_cases hj : j < Q
    · have hlt : j < s.size := by omega
      have hlt2 : decide (j < s.size) = true := decide_eq_true hlt
      have hc := HA.out j hlt h1 hj
      clear HA HZ
      go_wp2_with fail
      go_round
      case rel => exact ⟨j + 1, by omega, by omega, by go_num⟩
      case measure => simp [intOf]; omega
    · obtain rfl : j = Q := by omega
      clear hj h2
      have hlt2 : decide (j < s.size) = false := decide_eq_false (by omega)
      have hge : decide (s.size ≤ j) = true := decide_eq_true (by omega)
      clear HA HZ
      go_wp2
      go_ret2
      exact ⟨rfl, rfl⟩
set_option maxHeartbeats 4000000 in
theorem dname_b2 (s X : ByteArray) (k Q : Nat) (w : World) (hs : s.size ≤ 900) (hk : k < s.size) (h60 : ((s[k].toNat : Int) == 60) = true) (kQ : k + 1 ≤ Q) (hQ : Q < s.size) (hX : s.extract (k + 1) Q = X)
    (HA : Hid (∀ j (h : j < s.size), k + 1 ≤ j → j < Q → ((s[j].toNat : Int) != 62) = true)) (HZ : Hid (∀ h : Q < s.size, ((s[Q].toNat : Int) != 62) = false))
    (HN : Hid (∀ w, Calls Try.prog 29 #[.string X] w fun x w' => x = .returned (.bool false) ∧ w = w'))
    : Calls Try.prog 13 #[.string s, .int .i64 (k : Int)] w fun x w' => x = .returned (.tuple #[.string ⟨#[]⟩, .int .i64 (-1)]) ∧ w = w' := by
  have hk2 : decide (k < s.size) = true := decide_eq_true hk
  go_enter Try.func13, Try.ntmps13
  go_upto_region 3 with fail
  go_loop [6] (fun v => ∃ j : Nat, k + 1 ≤ j ∧ j ≤ Q ∧ v = .int .i64 j) (fun v => Q - (intOf v).toNat)
  case atStart => exact ⟨k + 1, Nat.le_refl _, kQ, by go_num⟩
  case round =>
    obtain ⟨j, h1, h2, rfl⟩ := hrel
    by_cases hj : j < Q
    · have hlt : j < s.size := by omega
      have hlt2 : decide (j < s.size) = true := decide_eq_true hlt
      have hc := HA.out j hlt h1 hj
      clear HA HZ
      go_wp2_with fail
      go_round
      case rel => exact ⟨j + 1, by omega, by omega, by go_num⟩
      case measure => simp [intOf]; omega
    · obtain rfl : j = Q := by omega
      clear hj h2
      have hlt2 : decide (j < s.size) = true := decide_eq_true hQ
      have hge : decide (s.size ≤ j) = false := decide_eq_false (by omega)
      have hc := HZ.out hQ
      clear HA HZ
      go_upto_region 5 with fail
      go_wp2_with (go_at_call 29; refine (HN.out _).mono ?_; rintro x w' ⟨rfl, rfl⟩)
      go_ret2
      exact ⟨rfl, rfl⟩
set_option maxHeartbeats 4000000 in
theorem dname_b3 (s X : ByteArray) (k Q : Nat) (w : World) (hs : s.size ≤ 900) (hk : k < s.size) (h60 : ((s[k].toNat : Int) == 60) = true) (kQ : k + 1 ≤ Q) (hQ : Q < s.size) (hX : s.extract (k + 1) Q = X)
    (HA : Hid (∀ j (h : j < s.size), k + 1 ≤ j → j < Q → ((s[j].toNat : Int) != 62) = true)) (HZ : Hid (∀ h : Q < s.size, ((s[Q].toNat : Int) != 62) = false))
    (HN : Hid (∀ w, Calls Try.prog 29 #[.string X] w fun x w' => x = .returned (.bool true) ∧ w = w'))
    : Calls Try.prog 13 #[.string s, .int .i64 (k : Int)] w fun x w' => x = .returned (.tuple #[.string X, .int .i64 ((Q + 1 : Nat) : Int)]) ∧ w = w' := by
  have hk2 : decide (k < s.size) = true := decide_eq_true hk
  go_enter Try.func13, Try.ntmps13
  go_upto_region 3 with fail
  go_loop [6] (fun v => ∃ j : Nat, k + 1 ≤ j ∧ j ≤ Q ∧ v = .int .i64 j) (fun v => Q - (intOf v).toNat)
  case atStart => exact ⟨k + 1, Nat.le_refl _, kQ, by go_num⟩
  case round =>
    obtain ⟨j, h1, h2, rfl⟩ := hrel
    by_cases hj : j < Q
    · have hlt : j < s.size := by omega
      have hlt2 : decide (j < s.size) = true := decide_eq_true hlt
      have hc := HA.out j hlt h1 hj
      clear HA HZ
      go_wp2_with fail
      go_round
      case rel => exact ⟨j + 1, by omega, by omega, by go_num⟩
      case measure => simp [intOf]; omega
    · obtain rfl : j = Q := by omega
      clear hj h2
      have hlt2 : decide (j < s.size) = true := decide_eq_true hQ
      have hge : decide (s.size ≤ j) = false := decide_eq_false (by omega)
      have hc := HZ.out hQ
      clear HA HZ
      go_upto_region 5 with fail
      go_wp2_with (go_at_call 29; refine (HN.out _).mono ?_; rintro x w' ⟨rfl, rfl⟩)
      go_ret2
      exact ⟨ret2_eq rfl (int_eq (by omega)), rfl⟩
set_option maxHeartbeats 4000000 in
theorem dname_pen (s X : ByteArray) (k Q : Nat) (w : World) (hs : s.size ≤ 900) (hk : Hid (s.size ≤ k)) (kQ : k ≤ Q) (hQ : Hid (Q ≤ s.size)) (hX : s.extract k Q = X)
    (HA : Hid (∀ j (h : j < s.size), k ≤ j → j < Q → ltB s[j] = true)) (HZ : Hid (∀ h : Q < s.size, ltB s[Q] = false))
    (HN : Hid (∀ w, Calls Try.prog 29 #[.string X] w fun x w' => x = .returned (.bool false) ∧ w = w'))
    : Calls Try.prog 13 #[.string s, .int .i64 (k : Int)] w fun x w' => x = .returned (.tuple #[.string ⟨#[]⟩, .int .i64 (-1)]) ∧ w = w' := by
  have hk2 : decide (k < s.size) = false := decide_eq_false (by have := hk.out; omega)
  go_enter Try.func13, Try.ntmps13
  go_upto_region 9 with fail
  go_loop [7] (fun v => ∃ j : Nat, k ≤ j ∧ j ≤ Q ∧ v = .int .i64 j) (fun v => Q - (intOf v).toNat)
  case atStart => exact ⟨k, Nat.le_refl _, kQ, rfl⟩
  case round =>
    obtain ⟨j, h1, h2, rfl⟩ := hrel
    by_cases hj : j < Q
    · exact absurd hj (by have := hk.out; have := hQ.out; omega)
    · obtain rfl : j = Q := by omega
      clear hj h2
      have hlt2 : decide (j < s.size) = false := decide_eq_false (by have := hk.out; omega)
      clear HA HZ
      go_wp2_with (first
        | (go_at_call 29; refine (HN.out _).mono ?_; rintro x w' ⟨rfl, rfl⟩))
      go_ret2
      exact ⟨rfl, rfl⟩
set_option maxHeartbeats 4000000 in
theorem dname_pey (s X : ByteArray) (k Q : Nat) (w : World) (hs : s.size ≤ 900) (hk : Hid (s.size ≤ k)) (kQ : k ≤ Q) (hQ : Hid (Q ≤ s.size)) (hX : s.extract k Q = X)
    (HA : Hid (∀ j (h : j < s.size), k ≤ j → j < Q → ltB s[j] = true)) (HZ : Hid (∀ h : Q < s.size, ltB s[Q] = false))
    (HN : Hid (∀ w, Calls Try.prog 29 #[.string X] w fun x w' => x = .returned (.bool true) ∧ w = w'))
    : Calls Try.prog 13 #[.string s, .int .i64 (k : Int)] w fun x w' => x = .returned (.tuple #[.string X, .int .i64 (Q : Int)]) ∧ w = w' := by
  have hk2 : decide (k < s.size) = false := decide_eq_false (by have := hk.out; omega)
  go_enter Try.func13, Try.ntmps13
  go_upto_region 9 with fail
  go_loop [7] (fun v => ∃ j : Nat, k ≤ j ∧ j ≤ Q ∧ v = .int .i64 j) (fun v => Q - (intOf v).toNat)
  case atStart => exact ⟨k, Nat.le_refl _, kQ, rfl⟩
  case round =>
    obtain ⟨j, h1, h2, rfl⟩ := hrel
    by_cases hj : j < Q
    · exact absurd hj (by have := hk.out; have := hQ.out; omega)
    · obtain rfl : j = Q := by omega
      clear hj h2
      have hlt2 : decide (j < s.size) = false := decide_eq_false (by have := hk.out; omega)
      clear HA HZ
      go_wp2_with (first
        | (go_at_call 29; refine (HN.out _).mono ?_; rintro x w' ⟨rfl, rfl⟩))
      go_ret2
      exact ⟨rfl, rfl⟩
set_option maxHeartbeats 4000000 in
theorem dname_pon (s X : ByteArray) (k Q : Nat) (w : World) (hs : s.size ≤ 900) (hk : k < s.size) (kQ : k ≤ Q) (hQ : Q ≤ s.size) (hX : s.extract k Q = X)
    (h60 : ((s[k].toNat : Int) == 60) = false)
    (HA : Hid (∀ j (h : j < s.size), k ≤ j → j < Q → ltB s[j] = true)) (HZ : Hid (∀ h : Q < s.size, ltB s[Q] = false))
    (HN : Hid (∀ w, Calls Try.prog 29 #[.string X] w fun x w' => x = .returned (.bool false) ∧ w = w'))
    : Calls Try.prog 13 #[.string s, .int .i64 (k : Int)] w fun x w' => x = .returned (.tuple #[.string ⟨#[]⟩, .int .i64 (-1)]) ∧ w = w' := by
  have hk2 : decide (k < s.size) = true := decide_eq_true hk
  go_enter Try.func13, Try.ntmps13
  go_upto_region 9 with fail
  go_loop [7] (fun v => ∃ j : Nat, k ≤ j ∧ j ≤ Q ∧ v = .int .i64 j) (fun v => Q - (intOf v).toNat)
  case atStart => exact ⟨k, Nat.le_refl _, kQ, rfl⟩
  case round =>
    obtain ⟨j, h1, h2, rfl⟩ := hrel
    by_cases hj : j < Q
    · have hlt : j < s.size := by omega
      have hlt2 : decide (j < s.size) = true := decide_eq_true hlt
      have hc := HA.out j hlt h1 hj
      have HLL := Lib.hid (fun w => dletter_any s[j] w)
      rw [hc] at HLL
      clear HA HZ hc
      go_wp2_with (go_at_call 30; refine (HLL.out _).mono ?_; rintro x w' ⟨rfl, rfl⟩)
      go_round
      case rel => exact ⟨j + 1, by omega, by omega, by go_num⟩
      case measure => simp [intOf]; omega
    · obtain rfl : j = Q := by omega
      clear hj h2
      rcases Nat.lt_or_ge j s.size with hz | hz
      · have hlt2 : decide (j < s.size) = true := decide_eq_true hz
        have HLL := Lib.hid (fun w => dletter_any s[j] w)
        rw [HZ.out hz] at HLL
        clear HA HZ
        go_wp2_with (first
          | (go_at_call 29; refine (HN.out _).mono ?_; rintro x w' ⟨rfl, rfl⟩)
          | (go_at_call 30; refine (HLL.out _).mono ?_; rintro x w' ⟨rfl, rfl⟩))
        go_ret2
        exact ⟨rfl, rfl⟩
      · have hlt2 : decide (j < s.size) = false := decide_eq_false (by omega)
        clear HA HZ
        go_wp2_with (first
          | (go_at_call 29; refine (HN.out _).mono ?_; rintro x w' ⟨rfl, rfl⟩))
        go_ret2
        exact ⟨rfl, rfl⟩
set_option maxHeartbeats 4000000 in
theorem dname_poy (s X : ByteArray) (k Q : Nat) (w : World) (hs : s.size ≤ 900) (hk : k < s.size) (kQ : k ≤ Q) (hQ : Q ≤ s.size) (hX : s.extract k Q = X)
    (h60 : ((s[k].toNat : Int) == 60) = false)
    (HA : Hid (∀ j (h : j < s.size), k ≤ j → j < Q → ltB s[j] = true)) (HZ : Hid (∀ h : Q < s.size, ltB s[Q] = false))
    (HN : Hid (∀ w, Calls Try.prog 29 #[.string X] w fun x w' => x = .returned (.bool true) ∧ w = w'))
    : Calls Try.prog 13 #[.string s, .int .i64 (k : Int)] w fun x w' => x = .returned (.tuple #[.string X, .int .i64 (Q : Int)]) ∧ w = w' := by
  have hk2 : decide (k < s.size) = true := decide_eq_true hk
  go_enter Try.func13, Try.ntmps13
  go_upto_region 9 with fail
  go_loop [7] (fun v => ∃ j : Nat, k ≤ j ∧ j ≤ Q ∧ v = .int .i64 j) (fun v => Q - (intOf v).toNat)
  case atStart => exact ⟨k, Nat.le_refl _, kQ, rfl⟩
  case round =>
    obtain ⟨j, h1, h2, rfl⟩ := hrel
    by_cases hj : j < Q
    · have hlt : j < s.size := by omega
      have hlt2 : decide (j < s.size) = true := decide_eq_true hlt
      have hc := HA.out j hlt h1 hj
      have HLL := Lib.hid (fun w => dletter_any s[j] w)
      rw [hc] at HLL
      clear HA HZ hc
      go_wp2_with (go_at_call 30; refine (HLL.out _).mono ?_; rintro x w' ⟨rfl, rfl⟩)
      go_round
      case rel => exact ⟨j + 1, by omega, by omega, by go_num⟩
      case measure => simp [intOf]; omega
    · obtain rfl : j = Q := by omega
      clear hj h2
      rcases Nat.lt_or_ge j s.size with hz | hz
      · have hlt2 : decide (j < s.size) = true := decide_eq_true hz
        have HLL := Lib.hid (fun w => dletter_any s[j] w)
        rw [HZ.out hz] at HLL
        clear HA HZ
        go_wp2_with (first
          | (go_at_call 29; refine (HN.out _).mono ?_; rintro x w' ⟨rfl, rfl⟩)
          | (go_at_call 30; refine (HLL.out _).mono ?_; rintro x w' ⟨rfl, rfl⟩))
        go_ret2
        exact ⟨rfl, rfl⟩
      · have hlt2 : decide (j < s.size) = false := decide_eq_false (by omega)
        clear HA HZ
        go_wp2_with (first
          | (go_at_call 29; refine (HN.out _).mono ?_; rintro x w' ⟨rfl, rfl⟩))
        go_ret2
        exact ⟨rfl, rfl⟩
/-- The document's name: what is taken, or nothing. -/
theorem dname17_any (s : ByteArray) (k : Nat) (w : World) (hk : k ≤ s.size) (hs : s.size ≤ 900) :
    Calls Try.prog 13 #[.string s, .int .i64 (k : Int)] w fun x w' =>
      x = .returned (.tuple #[.string ⟨(if naE s.data.toList k 0 = 0 then naS s.data.toList k 0 else []).toArray⟩, .int .i64 (if naE s.data.toList k 0 = 0 then ((naK s.data.toList k 0 : Nat) : Int) else -1)]) ∧ w = w' := by
  have hsz : s.data.toList.length = s.size := by simp
  have HN : ∀ X : ByteArray, X.size ≤ 900 → ∀ w, Calls Try.prog 29 #[.string X] w fun x w' => x = .returned (.bool (nmP X.data.toList)) ∧ w = w' := fun X hX w => dname_any X w (by omega)
  by_cases hd : (rs s.data.toList k 0).head? = some 60
  · have k1 := head16 hd
    rw [hsz] at k1
    have hk' : k < s.size := by omega
    have h60 : ((s[k].toNat : Int) == 60) = true := by
      have e : s.data.toList[k]'(by rw [hsz]; exact hk') = 60 := by
        rw [rs_cons (by rw [hsz]; exact hk')] at hd
        injection hd
      have e' : s[k] = 60 := e
      rw [e']; rfl
    obtain ⟨a1, a2⟩ := twl_at (· != 62) s.data.toList (k + 1)
    have le := twl_le (· != 62) s (k := k + 1) (by omega)
    have pt := twl_part (· != 62) s (k + 1)
    have eS : naS s.data.toList k 0 = qb 62 (s.data.toList.drop (k + 1)) := by unfold naS; rw [if_pos hd, rs_zero]
    have eq : (s.data.toList.drop (k + 1)).takeWhile (· != 62) = naS s.data.toList k 0 := eS.symm
    obtain ⟨Q, hQ⟩ : ∃ Q, Q = k + 1 + ((s.data.toList.drop (k + 1)).takeWhile (· != 62)).length := ⟨_, rfl⟩
    have kQ : k + 1 ≤ Q := by omega
    simp only [← hQ] at a1 a2 le pt
    rw [eq] at pt
    have eQ : k + 1 + (qb 62 (rs s.data.toList (k + 1) 0)).length = Q := by rw [rs_zero]; exact hQ.symm
    have eK : naK s.data.toList k 0 = mcK 62 s.data.toList Q 0 := by unfold naK; rw [if_pos hd, eQ]
    have eF : naF s.data.toList k 0 = mcE 62 s.data.toList Q 0 := by unfold naF; rw [if_pos hd, eQ]
    have ne : ∀ c : UInt8, (c != 62) = ((c.toNat : Int) != 62) := fun c => by
      have := (byte_eq c 62).2
      rw [show ((62 : UInt8).toNat : Int) = 62 from rfl] at this
      rw [this]; rfl
    have HA : Hid (∀ j (h : j < s.size), k + 1 ≤ j → j < Q → ((s[j].toNat : Int) != 62) = true) := Lib.hid (fun j h h1 h2 => by rw [← ne]; exact a1 j (by rw [hsz]; exact h) h1 h2)
    have HZ : Hid (∀ h : Q < s.size, ((s[Q].toNat : Int) != 62) = false) := Lib.hid (fun h => by rw [← ne]; exact a2 (by rw [hsz]; exact h))
    rcases Nat.lt_or_ge Q s.size with hz | hz
    · have hm : (rs s.data.toList Q 0).head? = some 62 := by
        rw [rs_cons (by rw [hsz]; exact hz)]
        have := a2 (by rw [hsz]; exact hz)
        have e : s.data.toList[Q]'(by rw [hsz]; exact hz) = 62 := by simpa using this
        show some _ = some _
        rw [e]
      have eK2 : mcK 62 s.data.toList Q 0 = Q + 1 := if_pos hm
      have eF2 : mcE 62 s.data.toList Q 0 = 0 := if_pos hm
      have HNX := HN (s.extract (k + 1) Q) (by rw [ByteArray.size_extract]; omega)
      rw [pt] at HNX
      have vX : Value.string (s.extract (k + 1) Q) = .string ⟨(naS s.data.toList k 0).toArray⟩ := str_is pt
      cases b : nmP (naS s.data.toList k 0) with
      | true =>
        have e0 : naE s.data.toList k 0 = 0 := by unfold naE; rw [b, if_pos rfl, eF, eF2]
        rw [if_pos e0, if_pos e0, eK, eK2, ← vX]
        rw [b] at HNX
        exact dname_b3 s _ k Q w hs hk' h60 kQ hz rfl HA HZ (Lib.hid HNX)
      | false =>
        have e0 : naE s.data.toList k 0 ≠ 0 := by unfold naE; rw [b, if_neg (by decide), eF, eF2]; decide
        rw [if_neg e0, if_neg e0]
        rw [b] at HNX
        exact dname_b2 s _ k Q w hs hk' h60 kQ hz rfl HA HZ (Lib.hid HNX)
    · have hm : ¬ (rs s.data.toList Q 0).head? = some 62 := by
        rw [rs_zero, List.drop_eq_nil_of_le (by rw [hsz]; exact hz)]; simp
      have eF2 : mcE 62 s.data.toList Q 0 = 2 := if_neg hm
      have e0 : naE s.data.toList k 0 ≠ 0 := by unfold naE; rw [eF, eF2]; split <;> decide
      rw [if_neg e0, if_neg e0]
      exact dname_b1 s _ k Q w hs hk' h60 kQ (by omega) rfl HA HZ
  · obtain ⟨a1, a2⟩ := twl_at ltB s.data.toList k
    have le := twl_le ltB s hk
    have pt := twl_part ltB s k
    have eS : naS s.data.toList k 0 = (s.data.toList.drop k).takeWhile ltB := by unfold naS; rw [if_neg hd, rs_zero]
    obtain ⟨Q, hQ⟩ : ∃ Q, Q = k + ((s.data.toList.drop k).takeWhile ltB).length := ⟨_, rfl⟩
    have kQ : k ≤ Q := by omega
    simp only [← hQ] at a1 a2 le pt
    rw [← eS] at pt
    have eK : naK s.data.toList k 0 = Q := by unfold naK; rw [if_neg hd, rs_zero]; exact hQ.symm
    have eF : naF s.data.toList k 0 = 0 := by unfold naF; rw [if_neg hd]
    have HA : Hid (∀ j (h : j < s.size), k ≤ j → j < Q → ltB s[j] = true) := Lib.hid (fun j h h1 h2 => a1 j (by rw [hsz]; exact h) h1 h2)
    have HZ : Hid (∀ h : Q < s.size, ltB s[Q] = false) := Lib.hid (fun h => a2 (by rw [hsz]; exact h))
    have HNX := HN (s.extract k Q) (by rw [ByteArray.size_extract]; omega)
    rw [pt] at HNX
    have vX : Value.string (s.extract k Q) = .string ⟨(naS s.data.toList k 0).toArray⟩ := str_is pt
    have h6 : ∀ h : k < s.size, ((s[k].toNat : Int) == 60) = false := fun h => by
      have e : ¬ s.data.toList[k]'(by rw [hsz]; exact h) = 60 := fun c => hd (by rw [rs_cons (by rw [hsz]; exact h), c]; rfl)
      have e' : ¬ s[k] = 60 := e
      have := (byte_eq s[k] 60).1
      rw [show ((60 : UInt8).toNat : Int) = 60 from rfl] at this
      rw [this]; exact beq_eq_false_iff_ne.2 e'
    cases b : nmP (naS s.data.toList k 0) with
    | true =>
      have e0 : naE s.data.toList k 0 = 0 := by unfold naE; rw [b, if_pos rfl, eF]
      rw [if_pos e0, if_pos e0, eK, ← vX]
      rw [b] at HNX
      rcases Nat.lt_or_ge k s.size with hz | hz
      · exact dname_poy s _ k Q w hs hz kQ le rfl (h6 hz) HA HZ (Lib.hid HNX)
      · exact dname_pey s _ k Q w hs (Lib.hid hz) kQ (Lib.hid le) rfl HA HZ (Lib.hid HNX)
    | false =>
      have e0 : naE s.data.toList k 0 ≠ 0 := by unfold naE; rw [b, if_neg (by decide), eF]; decide
      rw [if_neg e0, if_neg e0]
      rw [b] at HNX
      rcases Nat.lt_or_ge k s.size with hz | hz
      · exact dname_pon s _ k Q w hs hz kQ le rfl (h6 hz) HA HZ (Lib.hid HNX)
      · exact dname_pen s _ k Q w hs (Lib.hid hz) kQ (Lib.hid le) rfl HA HZ (Lib.hid HNX)
end Go.Proofs.Ytkhcneacjnpcnaa
