/- Merged: RefA. -/
import Derived.Test.YtjbbnlcghnjlfaaGGpsTexts34
import Derived.Outline
import Derived.LoopTactic
import Derived.Laws.IdiomStrings
namespace Go.Proofs.Ytjbbnlcghnjlfaa
open Go.RowKit
set_option linter.unusedVariables false

theorem ris_any (c : UInt8) (w : World) :
    Calls Try.prog 63 #[.int .u8 c.toNat] w fun e w' => e = .returned (.bool (isd c)) ∧ w = w' := by
  obtain ⟨n, hn⟩ : ∃ n, n = c.toNat := ⟨_, rfl⟩
  have hd : RowKit.Hid (isd c = (decide (48 ≤ n) && decide (n ≤ 57))) := by rw [hn]; exact rfl
  have hn256 : n < 256 := by rw [hn]; exact c.toNat_lt
  rw [← hn]
  clear hn
  go_enter Try.func63, Try.ntmps63
  go_wp2
  go_loop [3] (fun v => ∃ k : Nat, 48 ≤ k ∧ k ≤ 58 ∧ (n < 48 ∨ k ≤ n) ∧ v = .int .u8 k) (fun v => 58 - (intOf v).toNat)
  case atStart => exact ⟨48, by omega, by omega, by omega, rfl⟩
  case round =>
    obtain ⟨k, h1, h2, h3, rfl⟩ := hrel
    by_cases hlt : k ≤ 57
    · by_cases he : n = k
      · subst he
        go_wp2
        go_ret
        exact ⟨ret1_eq (bool_eq (by rw [hd.out]; simp; omega)), rfl⟩
      · have he' : ((n : Int) == (k : Int)) = false := by simp; omega
        go_wp2
        go_round
        case rel => exact ⟨k + 1, by omega, by omega, by omega, by go_num⟩
        case measure => simp [intOf]; omega
    · go_wp2
      go_ret
      exact ⟨ret1_eq (bool_eq (by rw [hd.out]; simp; omega)), rfl⟩
theorem ris_yes (c : UInt8) (w : World) (h : isd c = true) :
    Calls Try.prog 63 #[.int .u8 c.toNat] w fun e w' => e = .returned (.bool true) ∧ w = w' := h ▸ ris_any c w
theorem ris_no (c : UInt8) (w : World) (h : isd c = false) :
    Calls Try.prog 63 #[.int .u8 c.toNat] w fun e w' => e = .returned (.bool false) ∧ w = w' := h ▸ ris_any c w

set_option maxHeartbeats 400000 in
theorem many_any (s : ByteArray) (w : World) (hs : s.size ≤ maxLen) :
    Calls Try.prog 32 #[.string s] w fun e w' => e = .returned (.int .i64 (lead s.data.toList : Nat)) ∧ w = w' := by
  unfold maxLen at hs
  have hsz : s.data.toList.length = s.size := by simp
  have hle := lead_le s.data.toList
  have HSZ := Lib.hid hsz
  rw [hsz] at hle; clear hsz
  go_enter Try.func32, Try.ntmps32
  go_wp2
  go_loop [3] (fun i => ∃ k : Nat, k ≤ s.size ∧ k ≤ lead s.data.toList ∧ i = .int .i64 k) (fun i => s.size - (intOf i).toNat)
  case atStart => exact ⟨0, Nat.zero_le _, Nat.zero_le _, rfl⟩
  case round =>
    obtain ⟨k, hk, hkl, rfl⟩ := hrel
    by_cases hlt : k < s.size
    · cases hd : isd s[k]
      · have e := lead_at (l := s.data.toList) (by rw [HSZ.out]; exact hlt) hkl hd
        have E := Lib.hid e; clear e
        have HD := Lib.hid hd; clear hd
        go_wp2_with (go_at_call 63; refine (ris_no _ _ HD.out).mono ?_; rintro e w' ⟨rfl, rfl⟩)
        go_ret
        exact ⟨ret1_eq (int_eq (by rw [E.out])), rfl⟩
      · have hu := lead_up (l := s.data.toList) (by rw [HSZ.out]; exact hlt) hkl hd
        have HD := Lib.hid hd; clear hd
        go_wp2_with (go_at_call 63; refine (ris_yes _ _ HD.out).mono ?_; rintro e w' ⟨rfl, rfl⟩)
        go_round
        case rel => exact ⟨k + 1, by omega, hu, by go_num⟩
        case measure => simp [intOf]; omega
    · go_wp2
      go_ret
      exact ⟨ret1_eq (int_eq (by omega)), rfl⟩

/-! ### Raw -/
/-! ### Put -/
/-- The figures of 2^63. -/
def lowest : List UInt8 := [57, 50, 50, 51, 51, 55, 50, 48, 51, 54, 56, 53, 52, 55, 55, 53, 56, 48, 56]
end Go.Proofs.Ytjbbnlcghnjlfaa
