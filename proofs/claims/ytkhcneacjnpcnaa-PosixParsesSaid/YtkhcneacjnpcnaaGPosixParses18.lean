/- Merged: PosA. -/
import Derived.Test.YtkhcneacjnpcnaaGPosixParses14
import Derived.Test.YtkhcneacjnpcnaaGPosixParses15
import Derived.Test.YtkhcneacjnpcnaaGPosixParses17
namespace Go.Proofs.Ytkhcneacjnpcnaa
open Go.RowKit
set_option linter.unusedVariables false
set_option linter.unusedSimpArgs false

def letW : ByteArray := ⟨#[65, 66, 67, 68, 69, 70, 71, 72, 73, 74, 75, 76, 77, 78, 79, 80, 81, 82, 83, 84, 85, 86, 87, 88, 89, 90, 97, 98, 99, 100, 101, 102, 103, 104, 105, 106, 107, 108, 109, 110, 111, 112, 113, 114, 115, 116, 117, 118, 119, 120, 121, 122]⟩
def namW : ByteArray := ⟨#[65, 66, 67, 68, 69, 70, 71, 72, 73, 74, 75, 76, 77, 78, 79, 80, 81, 82, 83, 84, 85, 86, 87, 88, 89, 90, 97, 98, 99, 100, 101, 102, 103, 104, 105, 106, 107, 108, 109, 110, 111, 112, 113, 114, 115, 116, 117, 118, 119, 120, 121, 122, 48, 49, 50, 51, 52, 53, 54, 55, 56, 57, 43, 45]⟩
def clkW : ByteArray := ⟨#[48, 49, 50, 51, 52, 53, 54, 55, 56, 57, 43, 45, 58]⟩
theorem in_let (b : UInt8) : inB letW.data.toList b = ltB b := by
  have := byte_all (p := fun b => inB letW.data.toList b == ltB b) (by decide +kernel) b
  simpa using this
theorem in_nam (b : UInt8) : inB namW.data.toList b = nmB b := by
  have := byte_all (p := fun b => inB namW.data.toList b == nmB b) (by decide +kernel) b
  simpa using this
theorem in_clk (b : UInt8) : inB clkW.data.toList b = clB b := by
  have := byte_all (p := fun b => inB clkW.data.toList b == clB b) (by decide +kernel) b
  simpa using this
theorem in_let' : inB letW.data.toList = ltB := funext in_let
theorem in_nam' : inB namW.data.toList = nmB := funext in_nam
theorem in_clk' : inB clkW.data.toList = clB := funext in_clk

theorem all_step {p : UInt8 → Bool} {l : List UInt8} {i : Nat} (h : i < l.length) : (l.drop i).all p = (p l[i] && (l.drop (i + 1)).all p) := by
  rw [List.drop_eq_getElem_cons h]; rfl
theorem all_end {p : UInt8 → Bool} {l : List UInt8} {i : Nat} (h : l.length ≤ i) : (l.drop i).all p = true := by rw [List.drop_eq_nil_of_le h]; rfl

set_option maxHeartbeats 1600000 in
theorem only_any (s of : ByteArray) (w : World) (hs : s.size ≤ 100000) :
    Calls Try.prog 45 #[.string s, .string of] w fun x w' => x = .returned (.bool (s.data.toList.all (inB of.data.toList))) ∧ w = w' := by
  have hsz : s.data.toList.length = s.size := by simp
  have HI := fun (c : UInt8) w => Try.strings_IndexByte of (c.toNat : Int) w
  have hc : ∀ c : UInt8, ((c.toNat : Int).toNat.toUInt8) = c := fun c => by simp
  simp only [hc] at HI
  obtain ⟨R, hR⟩ : ∃ R, R = s.data.toList.all (inB of.data.toList) := ⟨_, rfl⟩
  rw [← hR]
  have HZ := Lib.hid hsz; have HH := Lib.hid HI; have HR := Lib.hid hR
  clear hc hsz HI hR
  go_enter Try.func45, Try.ntmps45
  go_wp2
  go_loop [4, 5, 8] (fun _ _ i => ∃ j : Nat, i = .int .i64 j ∧ j ≤ s.size ∧ Hid (R = (s.data.toList.drop j).all (inB of.data.toList))) (fun _ _ i => s.size - (intOf i).toNat)
  case atStart => exact ⟨0, rfl, Nat.zero_le _, by rw [List.drop_zero]; exact HR⟩
  case round =>
    obtain ⟨j, rfl, hj, HJ⟩ := hrel
    by_cases hlt : j < s.size
    · have hst := all_step (p := inB of.data.toList) (l := s.data.toList) (i := j) (by rw [HZ.out]; exact hlt)
      have hst2 : (s.data.toList.drop j).all (inB of.data.toList) = (inB of.data.toList s[j] && (s.data.toList.drop (j + 1)).all (inB of.data.toList)) := hst
      have hd : inB of.data.toList s[j] = decide (Lib.indexByte of.data.toList s[j] ≥ 0) := rfl
      have HC := fun w => HH.out s[j] w
      generalize Lib.indexByte of.data.toList s[j] = y at *
      have HCC := Lib.hid HC; clear HC hst
      cases hp : inB of.data.toList s[j]
      · rw [hp] at hst2 hd
        have hr : R = false := by rw [HJ.out, hst2]; rfl
        subst hr
        have hy : y < 0 := by have := of_decide_eq_false hd.symm; omega
        have hy' : decide (y < 0) = true := decide_eq_true hy
        clear hst2 hd hp
        go_wp2_with (go_at_call 53; refine (HCC.out _).mono ?_; rintro x w' ⟨rfl, rfl⟩)
        go_ret
        exact ⟨rfl, rfl⟩
      · rw [hp] at hst2 hd
        have hr : R = (s.data.toList.drop (j + 1)).all (inB of.data.toList) := by rw [HJ.out, hst2]; simp
        have HR2 := Lib.hid hr
        have hy : ¬ y < 0 := by have := of_decide_eq_true hd.symm; omega
        have hy' : decide (y < 0) = false := decide_eq_false hy
        clear hst2 hd hp hr
        go_wp2_with (go_at_call 53; refine (HCC.out _).mono ?_; rintro x w' ⟨rfl, rfl⟩)
        go_round
        case rel => exact ⟨j + 1, by go_num, by omega, HR2⟩
        case measure => simp [intOf]; omega
    · have hr : R = true := by rw [HJ.out]; exact all_end (by rw [HZ.out]; omega)
      subst hr
      go_wp2
      go_ret
      exact ⟨rfl, rfl⟩

theorem name_any (s : ByteArray) (w : World) (hs : s.size ≤ 100000) :
    Calls Try.prog 24 #[.string s] w fun x w' => x = .returned (.bool (nmP s.data.toList)) ∧ w = w' := by
  have hsz : s.data.toList.length = s.size := by simp
  have HO := Lib.hid (show ∀ w, Calls Try.prog 45 #[.string s, .string ⟨#[65, 66, 67, 68, 69, 70, 71, 72, 73, 74, 75, 76, 77, 78, 79, 80, 81, 82, 83, 84, 85, 86, 87, 88, 89, 90, 97, 98, 99, 100, 101, 102, 103, 104, 105, 106, 107, 108, 109, 110, 111, 112, 113, 114, 115, 116, 117, 118, 119, 120, 121, 122, 48, 49, 50, 51, 52, 53, 54, 55, 56, 57, 43, 45]⟩] w fun x w' => x = .returned (.bool (s.data.toList.all nmB)) ∧ w = w' from fun w => in_nam' ▸ only_any s namW w hs)
  have hq : nmP s.data.toList = (decide (3 ≤ s.size) && (decide (s.size ≤ 16) && s.data.toList.all nmB)) := by unfold nmP; rw [hsz]
  rw [hq]
  generalize s.data.toList.all nmB = R at *
  clear hq hsz
  by_cases h1 : 3 ≤ s.size
  · by_cases h2 : s.size ≤ 16
    · rw [decide_eq_true h1, decide_eq_true h2, Bool.true_and, Bool.true_and]
      have t1 : decide ((3 : Int) ≤ (s.size : Int)) = true := decide_eq_true (by omega)
      have t2 : decide ((s.size : Int) ≤ 16) = true := decide_eq_true (by omega)
      go_enter Try.func24, Try.ntmps24
      go_wp2_with (go_at_call 45; refine (HO.out _).mono ?_; rintro x w' ⟨rfl, rfl⟩)
      go_ret
      exact ⟨rfl, rfl⟩
    · rw [decide_eq_true h1, decide_eq_false h2, Bool.true_and, Bool.false_and]
      have t1 : decide ((3 : Int) ≤ (s.size : Int)) = true := decide_eq_true (by omega)
      have t2 : decide ((s.size : Int) ≤ 16) = false := decide_eq_false (by omega)
      go_enter Try.func24, Try.ntmps24
      go_wp2
      go_ret
      exact ⟨rfl, rfl⟩
  · rw [decide_eq_false h1, Bool.false_and]
    have t1 : decide ((3 : Int) ≤ (s.size : Int)) = false := decide_eq_false (by omega)
    go_enter Try.func24, Try.ntmps24
    go_wp2
    go_ret
    exact ⟨rfl, rfl⟩
theorem fits17_any (n : Int) (w : World) : Calls Try.prog 26 #[.int .i64 n] w fun x w' => x = .returned (.bool (ofP n)) ∧ w = w' := by
  unfold ofP
  cases h : decide (-89999 ≤ n) with
  | false =>
    rw [Bool.false_and]
    go_enter Try.func26, Try.ntmps26
    go_wp2
    go_ret
    exact ⟨rfl, rfl⟩
  | true =>
    rw [Bool.true_and]
    go_enter Try.func26, Try.ntmps26
    go_wp2
    go_ret
    exact ⟨rfl, rfl⟩
theorem usual_any (n : Int) (w : World) (h : -1000000 ≤ n ∧ n ≤ 1000000) : Calls Try.prog 43 #[.int .i64 n] w fun x w' => x = .returned (.int .i64 (n + 3600)) ∧ w = w' := by
  go_enter Try.func43, Try.ntmps43
  go_wp2
  go_ret
  exact ⟨rfl, rfl⟩
end Go.Proofs.Ytkhcneacjnpcnaa
