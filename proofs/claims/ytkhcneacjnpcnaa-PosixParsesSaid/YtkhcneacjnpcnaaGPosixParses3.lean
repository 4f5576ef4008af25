/- Merged: FigA. -/
import Derived.Test.YtkhcneacjnpcnaaGPosixParses2
import Derived.LoopTactic
import Derived.Lib.Walk
namespace Go.Proofs.Ytkhcneacjnpcnaa
open Go.RowKit
set_option linter.unusedVariables false

theorem figis_any (c : UInt8) (w : World) :
    Calls Try.prog 70 #[.int .u8 c.toNat] w fun e w' => e = .returned (.bool (isd c)) ∧ w = w' := by
  have hd : isd c = (decide (48 ≤ (c.toNat : Int)) && decide ((c.toNat : Int) ≤ 57)) := by
    unfold isd; rw [Bool.eq_iff_iff]; simp; omega
  rw [hd]; clear hd
  by_cases h1 : 48 ≤ (c.toNat : Int)
  · by_cases h2 : (c.toNat : Int) ≤ 57
    · go_enter Try.func70, Try.ntmps70
      go_wp2
      go_ret
      exact ⟨ret1_eq (bool_eq (by simp; omega)), rfl⟩
    · go_enter Try.func70, Try.ntmps70
      go_wp2
      go_ret
      exact ⟨ret1_eq (bool_eq (by simp; omega)), rfl⟩
  · go_enter Try.func70, Try.ntmps70
    go_wp2
    go_ret
    exact ⟨ret1_eq (bool_eq (by simp; omega)), rfl⟩
theorem figis_yes (c : UInt8) (w : World) (h : isd c = true) :
    Calls Try.prog 70 #[.int .u8 c.toNat] w fun e w' => e = .returned (.bool true) ∧ w = w' := h ▸ figis_any c w
theorem figis_no (c : UInt8) (w : World) (h : isd c = false) :
    Calls Try.prog 70 #[.int .u8 c.toNat] w fun e w' => e = .returned (.bool false) ∧ w = w' := h ▸ figis_any c w

theorem at_list (s : ByteArray) (k : Nat) (h : k < s.size) : s.data.toList[k]'(by simpa using h) = s[k] := rfl
theorem take_snoc (s : ByteArray) (k : Nat) (h : k < s.size) : s.data.toList.take (k + 1) = s.data.toList.take k ++ [s[k]] := by
  rw [List.take_succ_eq_append_getElem (by simpa using h)]; rfl

set_option maxHeartbeats 400000 in
theorem count_any (s : ByteArray) (m : Nat) (w : World) (hs : s.size ≤ maxLen) :
    Calls Try.prog 68 #[.string s, .int .i64 m] w fun e w' => e = .returned (.int .i64 (min (lead s.data.toList) m : Nat)) ∧ w = w' := by
  unfold maxLen at hs
  have hsz : s.data.toList.length = s.size := by simp
  have hle := lead_le s.data.toList
  have HSZ := Lib.hid hsz
  rw [hsz] at hle; clear hsz
  obtain ⟨n, hn⟩ : ∃ n : Nat, n = min s.size m := ⟨_, rfl⟩
  have hns : n ≤ s.size := by omega
  have hnm : n ≤ m := by omega
  have hmin : (min (s.size : Int) (m : Int)) = (n : Int) := by omega
  have HN := Lib.hid hn; clear hn
  go_enter Try.func68, Try.ntmps68
  go_wp2
  clear hmin
  go_loop [4, 6, 12] (fun _ _ i => ∃ k : Nat, k ≤ n ∧ k ≤ lead s.data.toList ∧ i = .int .i64 k) (fun _ _ i => n - (intOf i).toNat)
  case atStart => exact ⟨0, Nat.zero_le _, Nat.zero_le _, rfl⟩
  case round =>
    obtain ⟨k, hk, hkl, rfl⟩ := hrel
    by_cases hlt : k < n
    · have hks : k < s.size := by omega
      cases hd : isd s[k]
      · have e := lead_at (l := s.data.toList) (by rw [HSZ.out]; exact hks) hkl hd
        have E := Lib.hid e; clear e
        have HD := Lib.hid hd; clear hd
        go_wp2_with (go_at_call 70; refine (figis_no _ _ HD.out).mono ?_; rintro e w' ⟨rfl, rfl⟩)
        go_ret
        exact ⟨ret1_eq (int_eq (by rw [E.out]; omega)), rfl⟩
      · have hu := lead_up (l := s.data.toList) (by rw [HSZ.out]; exact hks) hkl hd
        have HD := Lib.hid hd; clear hd
        go_wp2_with (go_at_call 70; refine (figis_yes _ _ HD.out).mono ?_; rintro e w' ⟨rfl, rfl⟩)
        go_round
        case rel => exact ⟨k + 1, by omega, hu, by go_num⟩
        case measure => simp [intOf]; omega
    · go_wp2
      go_ret
      exact ⟨ret1_eq (int_eq (by have := HN.out; omega)), rfl⟩

/-! ### value -/
theorem dv_step {s : ByteArray} {k : Nat} (h : k < s.size) : dv (s.data.toList.take (k + 1)) = 10 * dv (s.data.toList.take k) + (s[k].toNat - 48) := by
  rw [take_snoc s k h, dv_snoc]

/-- The number of figures, up to a limit, and its error's number. -/
def vlN (l : List UInt8) (lim : Nat) : Nat := if lim < dv l then 0 else dv l
def vlE (l : List UInt8) (lim : Nat) : Int := if lim < dv l then 5 else 0
set_option maxHeartbeats 400000 in
theorem value_any (s : ByteArray) (lim : Nat) (w : World) (hs : s.size ≤ 100) (hd : ∀ b ∈ s.data.toList, isd b = true) (hl : 9 ≤ lim) (hl2 : lim ≤ 9223372036854775808) :
    Calls Try.prog 69 #[.string s, .int .u64 lim] w fun e w' =>
      e = .returned (.tuple #[.int .u64 (vlN s.data.toList lim : Nat), ev (vlE s.data.toList lim)]) ∧ w = w' := by
  have hsz : s.data.toList.length = s.size := by simp
  have HD := Lib.hid hd; have HSZ := Lib.hid hsz; clear hd hsz
  go_enter Try.func69, Try.ntmps69
  go_wp2
  go_loop [6, 7, 8, 11] (fun v _ _ i => ∃ k N : Nat, k ≤ s.size ∧ RowKit.Hid (N = dv (s.data.toList.take k)) ∧ N ≤ lim ∧ v = .int .u64 N ∧ i = .int .i64 k) (fun _ _ _ i => s.size - (intOf i).toNat)
  case atStart => exact ⟨0, 0, Nat.zero_le _, rfl, Nat.zero_le _, rfl, rfl⟩
  case round =>
    obtain ⟨k, N, hk, HN, hNl, rfl, rfl⟩ := hrel
    by_cases hlt : k < s.size
    · have hb := isd_bd (HD.out s[k] (by rw [← at_list s k hlt]; exact List.getElem_mem _))
      have hst := dv_step hlt
      rw [← HN.out] at hst
      have hle := dv_take_le s.data.toList (k + 1)
      by_cases hov : lim < 10 * N + (s[k].toNat - 48)
      · have hbig : lim < dv s.data.toList := by omega
        have HB := Lib.hid hbig
        clear hst hle hbig
        have ht : ((N : Int) > ((lim : Int) - ((s[k].toNat : Int) - 48)) / 10) := by omega
        clear hov
        go_wp2
        go_ret2
        exact ⟨ret2_eq (int_eq (by unfold vlN; rw [if_pos HB.out]; rfl)) (by unfold vlE; rw [if_pos HB.out]; rfl), rfl⟩
      · have HST := Lib.hid hst
        clear hst hle
        have ht : ¬ ((N : Int) > ((lim : Int) - ((s[k].toNat : Int) - 48)) / 10) := by omega
        go_wp2
        go_round
        case rel => exact ⟨k + 1, 10 * N + (s[k].toNat - 48), by omega, HST.out.symm, by omega, by congr 1; omega, by go_num⟩
        case measure => simp [intOf]; omega
    · have e : k = s.size := by omega
      have HE : RowKit.Hid (dv (s.data.toList.take k) = dv s.data.toList) := by rw [List.take_of_length_le (by rw [HSZ.out]; omega)]; exact rfl
      clear e
      go_wp2
      go_ret2
      have h1 := HN.out
      rw [HE.out] at h1
      exact ⟨ret2_eq (int_eq (by unfold vlN; rw [if_neg (by omega), h1])) (by unfold vlE; rw [if_neg (by omega)]; rfl), rfl⟩

/-! ### take, whole -/
/-- Are the bounds out of order? -/
def tkR (a b : Int) : Bool := decide (a < 1) || decide (b < a) || decide (20 < b)
def tkk (l : List UInt8) (b : Int) : Nat := min (lead l) b.toNat
def tkE (l : List UInt8) (a b : Int) (lim : Nat) : Int := if tkR a b then 1 else if (tkk l b : Int) < a then 2 else vlE (l.take (tkk l b)) lim
def tkN (l : List UInt8) (a b : Int) (lim : Nat) : Nat := if tkE l a b lim = 0 then dv (l.take (tkk l b)) else 0
def tkK (l : List UInt8) (a b : Int) (lim : Nat) : Nat := if tkE l a b lim = 0 then tkk l b else 0
theorem tk_no {l : List UInt8} {a b : Int} {lim : Nat} {k : Int} (h : tkE l a b lim = k) (hk : k ≠ 0) : tkN l a b lim = 0 ∧ tkK l a b lim = 0 := by
  unfold tkN tkK; rw [if_neg (by rw [h]; exact hk), if_neg (by rw [h]; exact hk)]; exact ⟨rfl, rfl⟩
theorem vl_E (l : List UInt8) (lim : Nat) : (vlE l lim = 5 ∧ vlN l lim = 0 ∧ lim < dv l) ∨ (vlE l lim = 0 ∧ vlN l lim = dv l ∧ dv l ≤ lim) := by
  unfold vlE vlN; by_cases h : lim < dv l
  · rw [if_pos h, if_pos h]; exact .inl ⟨rfl, rfl, h⟩
  · rw [if_neg h, if_neg h]; exact .inr ⟨rfl, rfl, by omega⟩

set_option maxHeartbeats 800000 in
theorem take_any (s : ByteArray) (a b : Int) (lim : Nat) (w : World) (hs : s.size ≤ maxLen) (ha : fits a) (hb : fits b) (hl : 9 ≤ lim) (hl2 : lim ≤ 9223372036854775808) :
    Calls Try.prog 67 #[.string s, .int .i64 a, .int .i64 b, .int .u64 lim] w fun e w' =>
      e = .returned (.tuple #[.int .u64 (tkN s.data.toList a b lim : Nat), .int .i64 (tkK s.data.toList a b lim : Nat), ev (tkE s.data.toList a b lim)]) ∧ w = w' := by
  by_cases hr : tkR a b = true
  · have e : tkE s.data.toList a b lim = 1 := by unfold tkE; rw [if_pos hr]
    obtain ⟨e1, e2⟩ := tk_no e (by decide)
    rw [e, e1, e2]; clear e e1 e2
    have hr' : a < 1 ∨ (¬ a < 1 ∧ b < a) ∨ (¬ a < 1 ∧ ¬ b < a ∧ 20 < b) := by unfold tkR at hr; simp at hr; omega
    clear hr
    rcases hr' with h1 | ⟨h1, h2⟩ | ⟨h1, h2, h3⟩
    all_goals
      go_enter Try.func67, Try.ntmps67
      go_wp2
      go_ret3
      exact ⟨rfl, rfl⟩
  · have hr' : ¬ a < 1 ∧ ¬ b < a ∧ ¬ 20 < b := by unfold tkR at hr; simp at hr; omega
    have hE : tkE s.data.toList a b lim = if (tkk s.data.toList b : Int) < a then 2 else vlE (s.data.toList.take (tkk s.data.toList b)) lim := by unfold tkE; rw [if_neg hr]
    clear hr
    obtain ⟨h1, h2, h3⟩ := hr'
    obtain ⟨m, rfl⟩ := Int.eq_ofNat_of_zero_le (show 0 ≤ b by omega)
    have hk : tkk s.data.toList m = min (lead s.data.toList) m := by unfold tkk; rfl
    obtain ⟨n, hn⟩ : ∃ n : Nat, n = tkk s.data.toList m := ⟨_, rfl⟩
    rw [← hn] at hE hk
    have hle := lead_le s.data.toList
    have hsz : s.data.toList.length = s.size := by simp
    have hns : n ≤ s.size := by omega
    have hn20 : n ≤ 20 := by omega
    have HC := Lib.hid (count_any s m w hs)
    rw [← hk] at HC
    have HE := Lib.hid hE; have HN := Lib.hid hn
    clear hE hn hk hle hsz hs
    by_cases h4 : (n : Int) < a
    · have e : tkE s.data.toList a m lim = 2 := by rw [HE.out, if_pos h4]
      obtain ⟨e1, e2⟩ := tk_no e (by decide)
      rw [e, e1, e2]; clear e e1 e2
      go_enter Try.func67, Try.ntmps67
      go_wp2_with (go_at_call 68; refine HC.out.mono ?_; rintro e w' ⟨rfl, rfl⟩)
      go_ret3
      exact ⟨rfl, rfl⟩
    · have hv := value_any (s.extract 0 n) lim w (by rw [ByteArray.size_extract]; omega) (by rw [Lib.extract_upto]; exact lead_mem (by have := HN.out; unfold tkk at this; omega)) hl hl2
      rw [show (s.extract 0 n).data.toList = s.data.toList.take n by rw [Lib.extract_upto]] at hv
      rw [if_neg h4] at HE
      rcases vl_E (s.data.toList.take n) lim with ⟨v1, v2, v3⟩ | ⟨v1, v2, v3⟩
      · rw [v1, v2] at hv; rw [v1] at HE
        obtain ⟨e1, e2⟩ := tk_no HE.out (by decide)
        rw [HE.out, e1, e2]
        have HV := Lib.hid hv
        clear hv e1 e2 v1 v2 v3 HE hl hl2 ha hb
        have q0 := fun op t x k => guard_ev op t w x k
        have q2 := fun k => neq_ev w k
        go_enter Try.func67, Try.ntmps67
        go_wp2_with (first
          | (go_at_call 68; refine HC.out.mono ?_; rintro e w' ⟨rfl, rfl⟩)
          | (go_at_call 69; refine HV.out.mono ?_; rintro e w' ⟨rfl, rfl⟩))
        go_ret3
        exact ⟨rfl, rfl⟩
      · rw [v1, v2] at hv; rw [v1] at HE
        have e1 : tkN s.data.toList a m lim = dv (s.data.toList.take n) := by unfold tkN; rw [if_pos HE.out, ← HN.out]
        have e2 : tkK s.data.toList a m lim = n := by unfold tkK; rw [if_pos HE.out, ← HN.out]
        rw [HE.out, e1, e2]
        have HV := Lib.hid hv
        obtain ⟨d, hd⟩ : ∃ d : Nat, d = dv (s.data.toList.take n) := ⟨_, rfl⟩
        rw [← hd] at HV v3 ⊢
        clear hv e1 e2 v1 v2 v3 HE hd hl hl2 ha hb
        have q0 := fun op t x k => guard_ev op t w x k
        have q2 := fun k => neq_ev w k
        go_enter Try.func67, Try.ntmps67
        go_wp2_with (first
          | (go_at_call 68; refine HC.out.mono ?_; rintro e w' ⟨rfl, rfl⟩)
          | (go_at_call 69; refine HV.out.mono ?_; rintro e w' ⟨rfl, rfl⟩))
        go_ret3
        exact ⟨rfl, rfl⟩

theorem tkN_le (l : List UInt8) (a b : Int) (lim : Nat) : tkN l a b lim ≤ lim := by
  unfold tkN; split
  · rename_i h
    unfold tkE at h
    split at h
    · cases h
    · split at h
      · cases h
      · rcases vl_E (l.take (tkk l b)) lim with ⟨h', _⟩ | ⟨_, _, h'⟩
        · rw [h'] at h; cases h
        · exact h'
  · omega
theorem tkK_le (l : List UInt8) (a b : Int) (lim : Nat) : tkK l a b lim ≤ l.length := by
  unfold tkK tkk; split
  · have := lead_le l; omega
  · omega
end Go.Proofs.Ytkhcneacjnpcnaa
