/- The document's figures: Is, Many, Raw, Put, Fraction. -/
import Derived.Test.YtelogbkhplegaaaFigC
import Derived.Outline
import Derived.LoopTactic
import Derived.Laws.IdiomStrings
namespace Go.Proofs.Ytelogbkhplegaaa
open Go.RowKit
set_option linter.unusedVariables false

theorem ris_any (c : UInt8) (w : World) :
    Calls Try.prog 77 #[.int .u8 c.toNat] w fun e w' => e = .returned (.bool (isd c)) ∧ w = w' := by
  obtain ⟨n, hn⟩ : ∃ n, n = c.toNat := ⟨_, rfl⟩
  have hd : RowKit.Hid (isd c = (decide (48 ≤ n) && decide (n ≤ 57))) := by rw [hn]; exact rfl
  have hn256 : n < 256 := by rw [hn]; exact c.toNat_lt
  rw [← hn]
  clear hn
  go_enter Try.func77, Try.ntmps77
  go_wp2
  go_loop [3] (fun v => ∃ k : Nat, 48 ≤ k ∧ k ≤ 58 ∧ (n < 48 ∨ k ≤ n) ∧ v = .int .u8 k) (fun v => 58 - (intOf v).toNat)
  case atStart => exact ⟨48, by omega, by omega, by omega, rfl⟩
  case round =>
    obtain ⟨k, h1, h2, h3, rfl⟩ := hrel
    by_cases hlt : k ≤ 57
    · by_cases he : n = k
      · subst he
        go_wp2
        go_ret
        exact ⟨ret1_eq (bool_eq (by rw [hd.out]; simp; omega)), rfl⟩
      · have he' : ((n : Int) == (k : Int)) = false := by simp; omega
        go_wp2
        go_round
        case rel => exact ⟨k + 1, by omega, by omega, by omega, by go_num⟩
        case measure => simp [intOf]; omega
    · go_wp2
      go_ret
      exact ⟨ret1_eq (bool_eq (by rw [hd.out]; simp; omega)), rfl⟩
theorem ris_yes (c : UInt8) (w : World) (h : isd c = true) :
    Calls Try.prog 77 #[.int .u8 c.toNat] w fun e w' => e = .returned (.bool true) ∧ w = w' := h ▸ ris_any c w
theorem ris_no (c : UInt8) (w : World) (h : isd c = false) :
    Calls Try.prog 77 #[.int .u8 c.toNat] w fun e w' => e = .returned (.bool false) ∧ w = w' := h ▸ ris_any c w

set_option maxHeartbeats 400000 in
theorem many_any (s : ByteArray) (w : World) (hs : s.size ≤ maxLen) :
    Calls Try.prog 71 #[.string s] w fun e w' => e = .returned (.int .i64 (lead s.data.toList : Nat)) ∧ w = w' := by
  unfold maxLen at hs
  have hsz : s.data.toList.length = s.size := by simp
  have hle := lead_le s.data.toList
  have HSZ := Lib.hid hsz
  rw [hsz] at hle; clear hsz
  go_enter Try.func71, Try.ntmps71
  go_wp2
  go_loop [3] (fun i => ∃ k : Nat, k ≤ s.size ∧ k ≤ lead s.data.toList ∧ i = .int .i64 k) (fun i => s.size - (intOf i).toNat)
  case atStart => exact ⟨0, Nat.zero_le _, Nat.zero_le _, rfl⟩
  case round =>
    obtain ⟨k, hk, hkl, rfl⟩ := hrel
    by_cases hlt : k < s.size
    · cases hd : isd s[k]
      · have e := lead_at (l := s.data.toList) (by rw [HSZ.out]; exact hlt) hkl hd
        have E := Lib.hid e; clear e
        have HD := Lib.hid hd; clear hd
        go_wp2_with (go_at_call 77; refine (ris_no _ _ HD.out).mono ?_; rintro e w' ⟨rfl, rfl⟩)
        go_ret
        exact ⟨ret1_eq (int_eq (by rw [E.out])), rfl⟩
      · have hu := lead_up (l := s.data.toList) (by rw [HSZ.out]; exact hlt) hkl hd
        have HD := Lib.hid hd; clear hd
        go_wp2_with (go_at_call 77; refine (ris_yes _ _ HD.out).mono ?_; rintro e w' ⟨rfl, rfl⟩)
        go_round
        case rel => exact ⟨k + 1, by omega, hu, by go_num⟩
        case measure => simp [intOf]; omega
    · go_wp2
      go_ret
      exact ⟨ret1_eq (int_eq (by omega)), rfl⟩

/-! ### Raw -/
/-- A number's figures, none for 0. -/
def decs (n : Nat) : List UInt8 := if n = 0 then [] else Lib.decDigits n
theorem decs_step {n : Nat} (h : 0 < n) : decs n = decs (n / 10) ++ [UInt8.ofNat (48 + n % 10)] := by
  unfold decs
  rw [if_neg (by omega), Lib.decDigits]
  by_cases h10 : n < 10
  · rw [dif_pos h10, if_pos (by omega), Nat.mod_eq_of_lt h10]; rfl
  · rw [dif_neg h10, if_neg (by omega)]
theorem pad_decs {n m j : Nat} {l : List UInt8} (h : l = List.replicate j 48 ++ decs n) (hj : j = 0 ∨ l.length ≤ m ∨ l.length ≤ 1) (hm : m ≤ l.length) (h1 : 0 < l.length) :
    l = pad m (Lib.decDigits n) := by
  subst h
  unfold pad
  simp only [List.length_append, List.length_replicate] at *
  by_cases h0 : n = 0
  · subst h0
    simp only [decs, if_true, List.length_nil, Nat.add_zero, List.append_nil] at *
    rw [Lib.decDigits_one (by decide)]
    show _ = List.replicate (m - 1) 48 ++ [48]
    rw [← List.replicate_succ', show m - 1 + 1 = j by omega]
  · have e : decs n = Lib.decDigits n := by unfold decs; rw [if_neg h0]
    rw [e] at hj hm h1 ⊢
    have := dec_pos n
    congr 2
    omega

theorem one_figure (x : Nat) (w : World) :
    (convert 25 9 (.slice (some ⟨w.heap.size, 0, none⟩) 1 1)).run Try.prog (w.alloc (.cells #[.int .u8 (48 + (x : Int) % 10)] 5)) =
      .ok (.string ⟨[UInt8.ofNat (48 + x % 10)].toArray⟩) (w.alloc (.cells #[.int .u8 (48 + (x : Int) % 10)] 5)) := by
  refine run_convert_bytes_back _ _ _ 5 ⟨w.heap.size, 0, none⟩ 1 [UInt8.ofNat (48 + x % 10)] Try.underlying25 Try.underlying5 Try.underlying9 ?_
  intro j hj
  have : j = 0 := by simpa using hj
  subst this
  have e := (isd_ofNat (d := x % 10) (Nat.mod_lt _ (by decide))).2
  simp only [List.getElem_cons_zero, e]
  show (w.alloc _).cell? ⟨w.heap.size, 0, none⟩ = _
  rw [World.cell?_alloc_mark]
  simp
theorem decs_len {n : Nat} (h : n < 10 ^ 19) : (decs n).length ≤ 19 := by
  unfold decs; split
  · simp
  · exact dec_len (by decide) h
/-! ### Put -/
/-- The figures of 2^63. -/
def lowest : List UInt8 := [57, 50, 50, 51, 51, 55, 50, 48, 51, 54, 56, 53, 52, 55, 55, 53, 56, 48, 56]
theorem lowest_len : lowest.length = 19 := rfl
end Go.Proofs.Ytelogbkhplegaaa
