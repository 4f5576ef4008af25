/- Package figures: Put, PutFraction, Short. -/
import Derived.Test.YthlampneheoedaaDoorFigB
import Derived.Lib.AppendIntMem
namespace Go.Proofs.YthlampneheoedaaDoor
open Go.RowKit
set_option linter.unusedVariables false

/-- The library's table of powers of ten. -/
def Tab (w : World) : Prop := Lib.TabIs Tryd.prog w "internal/strconv.uint64pow10" .u64 Lib.pow10Tab
theorem gtab : Tryd.prog.globalNamed "internal/strconv.uint64pow10" = some 0 := by kernel_rfl
theorem Tab.below {w w' : World} (h : Tab w) (hb : Below w.heap.size w w') : Tab w' := Joins.tab_stays gtab h hb (Nat.le_refl _)

def ptE (width : Int) : Int := if width < 0 ∨ 20 < width then 1 else 0
def ptL (n width : Int) : List UInt8 :=
  if width < 0 ∨ 20 < width then [] else if n < 0 then 45 :: pad width.toNat (Lib.decDigits n.natAbs) else pad width.toNat (Lib.decDigits n.natAbs)

theorem bs_append (a b : List UInt8) : (⟨a.toArray⟩ : ByteArray) ++ ⟨b.toArray⟩ = ⟨(a ++ b).toArray⟩ := by
  apply ByteArray.ext; simp
theorem dec_head (u : Nat) : Lib.hasPrefix (Lib.decDigits u) [45] = false := by
  have h := dec_isd u
  cases hd : Lib.decDigits u with
  | nil => rfl
  | cons b r =>
    rw [hd] at h
    have := isd_bd (h b (by simp))
    simp only [Lib.hasPrefix, List.isPrefixOf, Bool.and_true]
    apply beq_false_of_ne
    rintro rfl
    revert this; decide
theorem cut_itoa (n : Int) : Lib.trimPrefix (Lib.itoa n) [45] = Lib.decDigits n.natAbs ∧ Lib.hasPrefix (Lib.itoa n) [45] = decide (n < 0) := by
  by_cases h : n < 0
  · have e : Lib.itoa n = 45 :: Lib.decDigits n.natAbs := by unfold Lib.itoa; rw [if_pos h]
    have hp : Lib.hasPrefix (Lib.itoa n) [45] = true := by rw [e]; simp [Lib.hasPrefix, List.isPrefixOf]
    refine ⟨?_, by rw [hp]; simp [h]⟩
    unfold Lib.trimPrefix; rw [hp, e]; rfl
  · have e : Lib.itoa n = Lib.decDigits n.natAbs := by unfold Lib.itoa; rw [if_neg h]; congr 1; omega
    have hp : Lib.hasPrefix (Lib.itoa n) [45] = false := by rw [e]; exact dec_head _
    refine ⟨?_, by rw [hp]; simp [h]⟩
    unfold Lib.trimPrefix; rw [hp, e]; rfl
theorem repeat_one (c : UInt8) : ∀ k, Lib.repeatL [c] k = List.replicate k c
  | 0 => rfl
  | k + 1 => by rw [Lib.repeatL, repeat_one c k, List.replicate_succ]; rfl
theorem format_any (n : Int) (w : World) (hn : fits n) (ht : Tab w) :
    Calls Tryd.prog 27 #[.int .i64 n, .int .i64 10] w fun e w' => e = .returned (.string ⟨(Lib.itoa n).toArray⟩) ∧ Below w.heap.size w w' :=
  (Tryd.strconv_FormatInt_10 n hn.1 hn.2 w ht).mono fun e w' ⟨he, k, os, hw⟩ => ⟨he, hw ▸ Lib.below_grow _ _ (Nat.le_refl _) _ _⟩
theorem zeros_any (k : Nat) (w : World) (hk : k ≤ 100) :
    Calls Tryd.prog 28 #[.string ⟨#[48]⟩, .int .i64 k] w fun e w' => e = .returned (.string ⟨(List.replicate k 48).toArray⟩) ∧ Below w.heap.size w w' := by
  have h := Tryd.strings_Repeat ⟨#[48]⟩ k w (by omega) (by show 1 * k ≤ _; omega)
  rw [show ((⟨#[48]⟩ : ByteArray).data.toList) = [48] from rfl, repeat_one] at h
  exact h

set_option maxHeartbeats 800000 in
theorem put_any (n width : Int) (w : World) (hn : fits n) (hw : fits width) (ht : Tab w) :
    Calls Tryd.prog 9 #[.int .i64 n, .int .i64 width] w fun e w' =>
      e = .returned (.tuple #[.string ⟨(ptL n width).toArray⟩, ev (ptE width)]) ∧ Below w.heap.size w w' := by
  by_cases hr : width < 0 ∨ 20 < width
  · have e1 : ptL n width = [] := by unfold ptL; rw [if_pos hr]
    have e2 : ptE width = 1 := by unfold ptE; rw [if_pos hr]
    rw [e1, e2]; clear e1 e2
    have hr' : width < 0 ∨ (¬ width < 0 ∧ 20 < width) := by omega
    clear hr
    rcases hr' with h1 | ⟨h1, h2⟩
    all_goals
      go_enter Tryd.func9, Tryd.ntmps9
      go_wp2
      go_ret2
      exact ⟨rfl, Below.refl _ _⟩
  · have e2 : ptE width = 0 := by unfold ptE; rw [if_neg hr]
    rw [e2]; clear e2
    have h1 : 0 ≤ width := by omega
    have h2 : width ≤ 20 := by omega
    obtain ⟨W, rfl⟩ := Int.eq_ofNat_of_zero_le h1
    have e1 : ptL n W = if n < 0 then 45 :: pad W (Lib.decDigits n.natAbs) else pad W (Lib.decDigits n.natAbs) := by
      unfold ptL; rw [if_neg hr]; simp
    clear hr
    obtain ⟨ci, hi⟩ := cut_itoa n
    have hc := fun w => cutp_any ⟨(Lib.itoa n).toArray⟩ 45 w
    simp only [ci, hi] at hc
    have hf := format_any n w hn ht
    generalize Lib.itoa n = I at *
    have hu : n.natAbs < 10 ^ 19 := by
      unfold fits at hn
      have h : 9223372036854775808 < 10 ^ 19 := by decide
      omega
    have hl := dec_len (k := 19) (u := n.natAbs) (by decide) hu
    clear hu
    generalize hD : Lib.decDigits n.natAbs = D at *
    obtain ⟨k, hk⟩ : ∃ k : Nat, k = W - D.length := ⟨_, rfl⟩
    have hz := fun w => zeros_any k w (by omega)
    have hmax : max (0 : Int) ((W : Int) - (D.length : Int)) = (k : Int) := by omega
    have hsz : (⟨D.toArray⟩ : ByteArray).size = D.length := Lib.size_mk D
    have e3 : pad W D = List.replicate k 48 ++ D := by unfold pad; rw [hk]
    rw [e3] at e1
    have HC := Lib.hid hc; have HF := Lib.hid hf; have HZ := Lib.hid hz; have HE := Lib.hid e1
    clear ci hi hc hf hz e1 e3 hk hD ht hn hw
    by_cases hneg : n < 0
    · have e : ptL n W = 45 :: (List.replicate k 48 ++ D) := by rw [HE.out, if_pos hneg]
      rw [e]
      have hb : decide (n < 0) = true := by simpa using hneg
      rw [hb] at HC
      clear HE e hb
      go_enter Tryd.func9, Tryd.ntmps9
      go_wp2_with (first
        | (go_at_call 27; refine HF.out.mono ?_; rintro e w1 ⟨rfl, hb1⟩; have HB1 := Lib.hid hb1; clear hb1)
        | (go_at_call 26; refine (HC.out _).mono ?_; rintro e w' ⟨rfl, rfl⟩)
        | (go_at_call 28; refine (HZ.out _).mono ?_; rintro e w2 ⟨rfl, hb2⟩; have HB2 := Lib.hid hb2; clear hb2))
      go_ret2
      refine ⟨ret2_eq ?_ rfl, HB1.out.trans (HB2.out.mono HB1.out.size)⟩
      show Value.string (⟨[45].toArray⟩ ++ ⟨(List.replicate k 48).toArray⟩ ++ ⟨D.toArray⟩) = _
      rw [bs_append, bs_append]; rfl
    · have e : ptL n W = List.replicate k 48 ++ D := by rw [HE.out, if_neg hneg]
      rw [e]
      have hb : decide (n < 0) = false := by simpa using hneg
      rw [hb] at HC
      clear HE e hb
      go_enter Tryd.func9, Tryd.ntmps9
      go_wp2_with (first
        | (go_at_call 27; refine HF.out.mono ?_; rintro e w1 ⟨rfl, hb1⟩; have HB1 := Lib.hid hb1; clear hb1)
        | (go_at_call 26; refine (HC.out _).mono ?_; rintro e w' ⟨rfl, rfl⟩)
        | (go_at_call 28; refine (HZ.out _).mono ?_; rintro e w2 ⟨rfl, hb2⟩; have HB2 := Lib.hid hb2; clear hb2))
      go_ret2
      refine ⟨ret2_eq ?_ rfl, HB1.out.trans (HB2.out.mono HB1.out.size)⟩
      show Value.string (⟨(List.replicate k 48).toArray⟩ ++ ⟨D.toArray⟩) = _
      rw [bs_append]

/-! ### PutFraction, Short -/
/-- Isn't it a fraction? -/
def nf (nano : Int) : Prop := nano < 0 ∨ 999999999 < nano
instance (n : Int) : Decidable (nf n) := by unfold nf; infer_instance
/-- A fraction's nine figures. -/
def nine (nano : Int) : List UInt8 := pad 9 (Lib.decDigits nano.natAbs)
def pfE (nano many : Int) : Int := if nf nano ∨ many < 0 ∨ 9 < many then 1 else 0
def pfL (nano many : Int) : List UInt8 := if nf nano ∨ many < 0 ∨ 9 < many then [] else (nine nano).take many.toNat
def shE (nano : Int) : Int := if nf nano then 1 else 0
def shL (nano : Int) : List UInt8 := if nf nano then [] else Lib.trimRightB (nine nano) 48
theorem nine_len {nano : Int} (h : ¬ nf nano) : (nine nano).length = 9 := by
  unfold nf at h
  unfold nine; rw [pad_len]
  have := dec_len (k := 9) (u := nano.natAbs) (by decide) (by omega)
  omega
theorem nine_isd (nano : Int) : ∀ b ∈ nine nano, isd b = true := pad_isd (dec_isd _)
theorem nine_dv {nano : Int} (h : ¬ nf nano) : (dv (nine nano) : Int) = nano := by
  unfold nine; rw [dv_pad, dec_dv]; unfold nf at h; omega

set_option maxHeartbeats 800000 in
theorem putf_any (nano many : Int) (w : World) (hn : fits nano) (hm : fits many) (ht : Tab w) :
    Calls Tryd.prog 22 #[.int .i64 nano, .int .i64 many] w fun e w' =>
      e = .returned (.tuple #[.string ⟨(pfL nano many).toArray⟩, ev (pfE nano many)]) ∧ Below w.heap.size w w' := by
  by_cases hr : nf nano ∨ many < 0 ∨ 9 < many
  · have e1 : pfL nano many = [] := by unfold pfL; rw [if_pos hr]
    have e2 : pfE nano many = 1 := by unfold pfE; rw [if_pos hr]
    rw [e1, e2]; clear e1 e2
    have hr' : nano < 0 ∨ (¬ nano < 0 ∧ 1000000000 ≤ nano) ∨ (¬ nano < 0 ∧ ¬ 1000000000 ≤ nano ∧ many < 0) ∨ (¬ nano < 0 ∧ ¬ 1000000000 ≤ nano ∧ ¬ many < 0 ∧ 9 < many) := by unfold nf at hr; omega
    clear hr ht
    rcases hr' with h1 | ⟨h1, h2⟩ | ⟨h1, h2, h3⟩ | ⟨h1, h2, h3, h4⟩
    all_goals
      go_enter Tryd.func22, Tryd.ntmps22
      go_wp2
      go_ret2
      exact ⟨rfl, Below.refl _ _⟩
  · have e1 : pfL nano many = (nine nano).take many.toNat := by unfold pfL; rw [if_neg hr]
    have e2 : pfE nano many = 0 := by unfold pfE; rw [if_neg hr]
    rw [e1, e2]; clear e1 e2
    have hnf : ¬ nf nano := fun h => hr (.inl h)
    have h1 : 0 ≤ nano := by unfold nf at hnf; omega
    have h2 : nano ≤ 999999999 := by unfold nf at hnf; omega
    have h3 : 0 ≤ many := by omega
    have h4 : many ≤ 9 := by omega
    have hp := put_any nano 9 w hn (by decide) ht
    have e3 : ptL nano 9 = nine nano := by unfold ptL nine; rw [if_neg (by omega), if_neg (by omega)]; rfl
    have hlen := nine_len hnf
    rw [e3, show ptE 9 = 0 from rfl] at hp
    obtain ⟨M, rfl⟩ := Int.eq_ofNat_of_zero_le h3
    rw [show ((M : Nat) : Int).toNat = M from rfl]
    have hM : M ≤ 9 := by omega
    clear hnf e3 hr hn hm ht h3 h4
    generalize nine nano = D at *
    have hsz : (⟨D.toArray⟩ : ByteArray).size = 9 := by rw [Lib.size_mk]; exact hlen
    have HP := Lib.hid hp
    clear hp hlen
    have q0 := fun op t W x k => guard_ev op t W x k
    have q2 := fun W k => neq_ev W k
    go_enter Tryd.func22, Tryd.ntmps22
    go_wp2_with (go_at_call 9; refine HP.out.mono ?_; rintro e w1 ⟨rfl, hb1⟩; have HB1 := Lib.hid hb1; clear hb1)
    go_ret2
    refine ⟨ret2_eq ?_ rfl, HB1.out⟩
    show Value.string ((⟨D.toArray⟩ : ByteArray).extract 0 M) = _
    rw [Lib.extract_upto]

set_option maxHeartbeats 800000 in
theorem short_any (nano : Int) (w : World) (hn : fits nano) (ht : Tab w) :
    Calls Tryd.prog 23 #[.int .i64 nano] w fun e w' =>
      e = .returned (.tuple #[.string ⟨(shL nano).toArray⟩, ev (shE nano)]) ∧ Below w.heap.size w w' := by
  have hp := putf_any nano 9 w hn (by decide) ht
  have e1 : shL nano = Lib.trimRightB (pfL nano 9) 48 := by
    unfold shL pfL
    by_cases h : nf nano
    · rw [if_pos h, if_pos (.inl h)]; rfl
    · rw [if_neg h, if_neg (by rintro (h' | h' | h'); exact h h'; all_goals omega), List.take_of_length_le (by rw [nine_len h]; decide)]
  have e2 : shE nano = pfE nano 9 := by
    unfold shE pfE
    by_cases h : nf nano
    · rw [if_pos h, if_pos (.inl h)]
    · rw [if_neg h, if_neg (by rintro (h' | h' | h'); exact h h'; all_goals omega)]
  have hl : (pfL nano 9).length ≤ 9 := by unfold pfL; split; simp; rw [List.length_take]; exact Nat.min_le_left _ _
  rw [e1, e2]; clear e1 e2
  generalize pfL nano 9 = D at *
  generalize pfE nano 9 = E at *
  have hs : (⟨D.toArray⟩ : ByteArray).size ≤ 9223372036854775807 := by rw [Lib.size_mk]; omega
  have ht := fun w => Tryd.strings_TrimRight_one ⟨D.toArray⟩ 48 (by decide) w hs
  simp only at ht
  have HP := Lib.hid hp
  have HT : ∀ w, RowKit.Hid (Calls Tryd.prog 36 #[.string ⟨D.toArray⟩, .string ⟨#[48]⟩] w fun e w' => e = .returned (.string ⟨(Lib.trimRightB D 48).toArray⟩) ∧ w = w') :=
    fun w => (ht w).mono fun e w' ⟨he, hw⟩ => ⟨he, hw.symm⟩
  clear hp ht hs hl hn
  go_enter Tryd.func23, Tryd.ntmps23
  go_wp2_with (first
    | (go_at_call 22; refine HP.out.mono ?_; rintro e w1 ⟨rfl, hb1⟩; have HB1 := Lib.hid hb1; clear hb1)
    | (go_at_call 36; refine (HT _).out.mono ?_; rintro e w' ⟨rfl, rfl⟩))
  go_ret2
  exact ⟨rfl, HB1.out⟩
end Go.Proofs.YthlampneheoedaaDoor
