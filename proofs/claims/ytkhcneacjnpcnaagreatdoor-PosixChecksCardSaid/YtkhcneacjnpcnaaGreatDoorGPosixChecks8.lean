/- Merged: FigC. -/
import Derived.Test.YtkhcneacjnpcnaaGreatDoorGPosixChecks7
import Derived.Lib.AppendIntMem
namespace Go.Proofs.YtkhcneacjnpcnaaGreatDoor
open Go.RowKit
set_option linter.unusedVariables false

/-- The library's table of powers of ten. -/
def Tab (w : World) : Prop := Lib.TabIs Tryz.prog w "internal/strconv.uint64pow10" .u64 Lib.pow10Tab
theorem gtab : Tryz.prog.globalNamed "internal/strconv.uint64pow10" = some 1 := by kernel_rfl
theorem Tab.below {w w' : World} (h : Tab w) (hb : Below w.heap.size w w') : Tab w' := Joins.tab_stays gtab h hb (Nat.le_refl _)

def ptE (width : Int) : Int := if width < 0 ∨ 20 < width then 1 else 0
def ptL (n width : Int) : List UInt8 :=
  if width < 0 ∨ 20 < width then [] else if n < 0 then 45 :: pad width.toNat (Lib.decDigits n.natAbs) else pad width.toNat (Lib.decDigits n.natAbs)

theorem bs_append (a b : List UInt8) : (⟨a.toArray⟩ : ByteArray) ++ ⟨b.toArray⟩ = ⟨(a ++ b).toArray⟩ := by
  apply ByteArray.ext; simp
theorem dec_head (u : Nat) : Lib.hasPrefix (Lib.decDigits u) [45] = false := by
  have h := dec_isd u
  cases hd : Lib.decDigits u with
  | nil => rfl
  | cons b r =>
    rw [hd] at h
    have := isd_bd (h b (by simp))
    simp only [Lib.hasPrefix, List.isPrefixOf, Bool.and_true]
    apply beq_false_of_ne
    rintro rfl
    revert this; decide
theorem cut_itoa (n : Int) : Lib.trimPrefix (Lib.itoa n) [45] = Lib.decDigits n.natAbs ∧ Lib.hasPrefix (Lib.itoa n) [45] = decide (n < 0) := by
  by_cases h : n < 0
  · have e : Lib.itoa n = 45 :: Lib.decDigits n.natAbs := by unfold Lib.itoa; rw [if_pos h]
    have hp : Lib.hasPrefix (Lib.itoa n) [45] = true := by rw [e]; simp [Lib.hasPrefix, List.isPrefixOf]
    refine ⟨?_, by rw [hp]; simp [h]⟩
    unfold Lib.trimPrefix; rw [hp, e]; rfl
  · have e : Lib.itoa n = Lib.decDigits n.natAbs := by unfold Lib.itoa; rw [if_neg h]; congr 1; omega
    have hp : Lib.hasPrefix (Lib.itoa n) [45] = false := by rw [e]; exact dec_head _
    refine ⟨?_, by rw [hp]; simp [h]⟩
    unfold Lib.trimPrefix; rw [hp, e]; rfl
theorem repeat_one (c : UInt8) : ∀ k, Lib.repeatL [c] k = List.replicate k c
  | 0 => rfl
  | k + 1 => by rw [Lib.repeatL, repeat_one c k, List.replicate_succ]; rfl
theorem format_any (n : Int) (w : World) (hn : fits n) (ht : Tab w) :
    Calls Tryz.prog 75 #[.int .i64 n, .int .i64 10] w fun e w' => e = .returned (.string ⟨(Lib.itoa n).toArray⟩) ∧ Below w.heap.size w w' :=
  (Tryz.strconv_FormatInt_10 n hn.1 hn.2 w ht).mono fun e w' ⟨he, k, os, hw⟩ => ⟨he, hw ▸ Lib.below_grow _ _ (Nat.le_refl _) _ _⟩
theorem zeros_any (k : Nat) (w : World) (hk : k ≤ 100) :
    Calls Tryz.prog 76 #[.string ⟨#[48]⟩, .int .i64 k] w fun e w' => e = .returned (.string ⟨(List.replicate k 48).toArray⟩) ∧ Below w.heap.size w w' := by
  have h := Tryz.strings_Repeat ⟨#[48]⟩ k w (by omega) (by show 1 * k ≤ _; omega)
  rw [show ((⟨#[48]⟩ : ByteArray).data.toList) = [48] from rfl, repeat_one] at h
  exact h

set_option maxHeartbeats 800000 in
theorem put_any (n width : Int) (w : World) (hn : fits n) (hw : fits width) (ht : Tab w) :
    Calls Tryz.prog 70 #[.int .i64 n, .int .i64 width] w fun e w' =>
      e = .returned (.tuple #[.string ⟨(ptL n width).toArray⟩, ev (ptE width)]) ∧ Below w.heap.size w w' := by
  by_cases hr : width < 0 ∨ 20 < width
  · have e1 : ptL n width = [] := by unfold ptL; rw [if_pos hr]
    have e2 : ptE width = 1 := by unfold ptE; rw [if_pos hr]
    rw [e1, e2]; clear e1 e2
    have hr' : width < 0 ∨ (¬ width < 0 ∧ 20 < width) := by omega
    clear hr
    rcases hr' with h1 | ⟨h1, h2⟩
    all_goals
      go_enter Tryz.func70, Tryz.ntmps70
      go_wp2
      go_ret2
      exact ⟨rfl, Below.refl _ _⟩
  · have e2 : ptE width = 0 := by unfold ptE; rw [if_neg hr]
    rw [e2]; clear e2
    have h1 : 0 ≤ width := by omega
    have h2 : width ≤ 20 := by omega
    obtain ⟨W, rfl⟩ := Int.eq_ofNat_of_zero_le h1
    have e1 : ptL n W = if n < 0 then 45 :: pad W (Lib.decDigits n.natAbs) else pad W (Lib.decDigits n.natAbs) := by
      unfold ptL; rw [if_neg hr]; simp
    clear hr
    obtain ⟨ci, hi⟩ := cut_itoa n
    have hc := fun w => cutp_any ⟨(Lib.itoa n).toArray⟩ 45 w
    simp only [ci, hi] at hc
    have hf := format_any n w hn ht
    generalize Lib.itoa n = I at *
    have hu : n.natAbs < 10 ^ 19 := by
      unfold fits at hn
      have h : 9223372036854775808 < 10 ^ 19 := by decide
      omega
    have hl := dec_len (k := 19) (u := n.natAbs) (by decide) hu
    clear hu
    generalize hD : Lib.decDigits n.natAbs = D at *
    obtain ⟨k, hk⟩ : ∃ k : Nat, k = W - D.length := ⟨_, rfl⟩
    have hz := fun w => zeros_any k w (by omega)
    have hmax : max (0 : Int) ((W : Int) - (D.length : Int)) = (k : Int) := by omega
    have hsz : (⟨D.toArray⟩ : ByteArray).size = D.length := Lib.size_mk D
    have e3 : pad W D = List.replicate k 48 ++ D := by unfold pad; rw [hk]
    rw [e3] at e1
    have HC := Lib.hid hc; have HF := Lib.hid hf; have HZ := Lib.hid hz; have HE := Lib.hid e1
    clear ci hi hc hf hz e1 e3 hk hD ht hn hw
    by_cases hneg : n < 0
    · have e : ptL n W = 45 :: (List.replicate k 48 ++ D) := by rw [HE.out, if_pos hneg]
      rw [e]
      have hb : decide (n < 0) = true := by simpa using hneg
      rw [hb] at HC
      clear HE e hb
      go_enter Tryz.func70, Tryz.ntmps70
      go_wp2_with (first
        | (go_at_call 75; refine HF.out.mono ?_; rintro e w1 ⟨rfl, hb1⟩; have HB1 := Lib.hid hb1; clear hb1)
        | (go_at_call 74; refine (HC.out _).mono ?_; rintro e w' ⟨rfl, rfl⟩)
        | (go_at_call 76; refine (HZ.out _).mono ?_; rintro e w2 ⟨rfl, hb2⟩; have HB2 := Lib.hid hb2; clear hb2))
      go_ret2
      refine ⟨ret2_eq ?_ rfl, HB1.out.trans (HB2.out.mono HB1.out.size)⟩
      show Value.string (⟨[45].toArray⟩ ++ ⟨(List.replicate k 48).toArray⟩ ++ ⟨D.toArray⟩) = _
      rw [bs_append, bs_append]; rfl
    · have e : ptL n W = List.replicate k 48 ++ D := by rw [HE.out, if_neg hneg]
      rw [e]
      have hb : decide (n < 0) = false := by simpa using hneg
      rw [hb] at HC
      clear HE e hb
      go_enter Tryz.func70, Tryz.ntmps70
      go_wp2_with (first
        | (go_at_call 75; refine HF.out.mono ?_; rintro e w1 ⟨rfl, hb1⟩; have HB1 := Lib.hid hb1; clear hb1)
        | (go_at_call 74; refine (HC.out _).mono ?_; rintro e w' ⟨rfl, rfl⟩)
        | (go_at_call 76; refine (HZ.out _).mono ?_; rintro e w2 ⟨rfl, hb2⟩; have HB2 := Lib.hid hb2; clear hb2))
      go_ret2
      refine ⟨ret2_eq ?_ rfl, HB1.out.trans (HB2.out.mono HB1.out.size)⟩
      show Value.string (⟨(List.replicate k 48).toArray⟩ ++ ⟨D.toArray⟩) = _
      rw [bs_append]

/-! ### PutFraction, Short -/
/-- Isn't it a fraction? -/
def nf (nano : Int) : Prop := nano < 0 ∨ 999999999 < nano
instance (n : Int) : Decidable (nf n) := by unfold nf; infer_instance
end Go.Proofs.YtkhcneacjnpcnaaGreatDoor
