/- Merged: ListN, FigC, RefA. -/
import Derived.Test.YtdonicaiimeleaaGreatDoorGListParses1
import Derived.Test.YtdonicaiimeleaaGreatDoorGListParses4
import Derived.Lib.AppendIntMem
import Derived.Outline
import Derived.LoopTactic
import Derived.Laws.IdiomStrings
namespace Go.Proofs.YtdonicaiimeleaaGreatDoor
set_option linter.unusedVariables false

/-- A word of a text. -/
def wdA (l : List UInt8) (i : Nat) : List UInt8 := (wdL l).getD i []
theorem wdA_at {l : List UInt8} {i : Nat} (h : i < (wdL l).length) : (wdL l)[i]? = some (wdA l i) := by
  unfold wdA
  rw [List.getD, List.getElem?_eq_getElem h]; rfl
theorem wdL_all (l : List UInt8) : ∀ w ∈ wdL l, w.length ≤ l.length + 1 := wo_all l _
theorem wdA_len (l : List UInt8) (i : Nat) : (wdA l i).length ≤ l.length + 1 := by
  unfold wdA
  rw [List.getD]
  cases h : (wdL l)[i]? with
  | none => simp
  | some u => exact wdL_all l u (List.mem_of_getElem? h)
/-- A time behind its sign. -/
def tiE (l : List UInt8) : Int := if gpL l = true ∧ (wdL l).length = 1 then whE (wdA l 0) 1 13 mx else 2
def tiN (l : List UInt8) : Nat := if gpL l = true ∧ (wdL l).length = 1 then whN (wdA l 0) 1 13 mx else 0
theorem ti_yes {l : List UInt8} (h : gpL l = true) (h1 : (wdL l).length = 1) : tiE l = whE (wdA l 0) 1 13 mx ∧ tiN l = whN (wdA l 0) 1 13 mx := by
  unfold tiE tiN
  rw [if_pos ⟨h, h1⟩, if_pos ⟨h, h1⟩]
  exact ⟨rfl, rfl⟩
theorem ti_no {l : List UInt8} (h : ¬ (gpL l = true ∧ (wdL l).length = 1)) : tiE l = 2 ∧ tiN l = 0 := by
  unfold tiE tiN
  rw [if_neg h, if_neg h]
  exact ⟨rfl, rfl⟩

/-- Where a remark begins stays, once it is found. -/
theorem ct_stay {l : List UInt8} {i : Nat} (h : ctS l i < l.length) : ∀ d, ctS l (i + d) = ctS l i
  | 0 => rfl
  | d + 1 => by
    have ih := ct_stay h d
    show ctS l (i + d + 1) = _
    rw [ctS, ih, if_pos h]
theorem ct_found {l : List UInt8} {i : Nat} (h : ctS l i < l.length) (hi : i ≤ l.length) : ctL l = ctS l i := by
  unfold ctL
  have := ct_stay h (l.length - i)
  rw [show i + (l.length - i) = l.length by omega] at this
  exact this
theorem ctr_yes {l : List UInt8} {i : Nat} {b : UInt8} (h : ctS l i = l.length) (h0 : 0 < i) (h1 : l[i]? = some 35) (h2 : l[i - 1]? = some b) (h3 : gp b = true) : ctS l (i + 1) = i := by
  rw [ctS, if_neg (by omega), if_pos ⟨h0, h1, by rw [h2]; simp [h3]⟩]
theorem ctr_no {l : List UInt8} {i : Nat} (h : ctS l i = l.length) (hn : ¬ (l[i]? = some 35 ∧ (l[i - 1]?.map gp) = some true)) : ctS l (i + 1) = l.length := by
  rw [ctS, if_neg (by omega), if_neg (fun c => hn c.2)]
theorem ct_one (l : List UInt8) : ctS l 1 = l.length := by
  rw [ctS]
  rw [if_neg (by rw [ctS]; omega), if_neg (by omega)]

/-- A row's words. -/
def rwW (l : List UInt8) : List UInt8 := l.take (ctL l)
def rwE (l : List UInt8) : Int :=
  if (wdL (rwW l)).length ≠ 2 then 2 else if whE (wdA (rwW l) 0) 1 13 mx ≠ 0 ∨ whE (wdA (rwW l) 1) 1 4 mx ≠ 0 then 2 else if whN (wdA (rwW l) 0) 1 13 mx % 86400 ≠ 0 then 1 else 0
def rwA (l : List UInt8) : Nat := if rwE l = 0 then whN (wdA (rwW l) 0) 1 13 mx else 0
def rwO11 (l : List UInt8) : Nat := if rwE l = 0 then whN (wdA (rwW l) 1) 1 4 mx else 0
theorem rw_two {l : List UInt8} (h : (wdL (rwW l)).length ≠ 2) : rwE l = 2 ∧ rwA l = 0 ∧ rwO11 l = 0 := by
  have e : rwE l = 2 := by unfold rwE; rw [if_pos h]
  unfold rwA rwO11
  rw [e]
  exact ⟨rfl, rfl, rfl⟩
theorem rw_form {l : List UInt8} (h : (wdL (rwW l)).length = 2) (h1 : whE (wdA (rwW l) 0) 1 13 mx ≠ 0 ∨ whE (wdA (rwW l) 1) 1 4 mx ≠ 0) : rwE l = 2 ∧ rwA l = 0 ∧ rwO11 l = 0 := by
  have e : rwE l = 2 := by unfold rwE; rw [if_neg (by omega), if_pos h1]
  unfold rwA rwO11
  rw [e]
  exact ⟨rfl, rfl, rfl⟩
theorem rw_range {l : List UInt8} (h : (wdL (rwW l)).length = 2) (h1 : whE (wdA (rwW l) 0) 1 13 mx = 0) (h2 : whE (wdA (rwW l) 1) 1 4 mx = 0) (h3 : whN (wdA (rwW l) 0) 1 13 mx % 86400 ≠ 0) : rwE l = 1 ∧ rwA l = 0 ∧ rwO11 l = 0 := by
  have e : rwE l = 1 := by unfold rwE; rw [if_neg (by omega), if_neg (by omega), if_pos h3]
  unfold rwA rwO11
  rw [e]
  exact ⟨rfl, rfl, rfl⟩
theorem rw_good {l : List UInt8} (h : (wdL (rwW l)).length = 2) (h1 : whE (wdA (rwW l) 0) 1 13 mx = 0) (h2 : whE (wdA (rwW l) 1) 1 4 mx = 0) (h3 : whN (wdA (rwW l) 0) 1 13 mx % 86400 = 0) : rwE l = 0 ∧ rwA l = whN (wdA (rwW l) 0) 1 13 mx ∧ rwO11 l = whN (wdA (rwW l) 1) 1 4 mx := by
  have e : rwE l = 0 := by unfold rwE; rw [if_neg (by omega), if_neg (by omega), if_neg (by omega)]
  unfold rwA rwO11
  rw [if_pos e, if_pos e]
  exact ⟨e, rfl, rfl⟩

end Go.Proofs.YtdonicaiimeleaaGreatDoor

namespace Go.Proofs.YtdonicaiimeleaaGreatDoor
open Go.RowKit
set_option linter.unusedVariables false

/-- The library's table of powers of ten. -/
def Tab (w : World) : Prop := Lib.TabIs Tryz.prog w "internal/strconv.uint64pow10" .u64 Lib.pow10Tab
theorem gtab : Tryz.prog.globalNamed "internal/strconv.uint64pow10" = some 8 := by kernel_rfl
theorem Tab.below {w w' : World} (h : Tab w) (hb : Below w.heap.size w w') : Tab w' := Joins.tab_stays gtab h hb (Nat.le_refl _)

def ptE (width : Int) : Int := if width < 0 ∨ 20 < width then 1 else 0
def ptL (n width : Int) : List UInt8 :=
  if width < 0 ∨ 20 < width then [] else if n < 0 then 45 :: pad width.toNat (Lib.decDigits n.natAbs) else pad width.toNat (Lib.decDigits n.natAbs)

theorem bs_append (a b : List UInt8) : (⟨a.toArray⟩ : ByteArray) ++ ⟨b.toArray⟩ = ⟨(a ++ b).toArray⟩ := by
  apply ByteArray.ext; simp
theorem dec_head (u : Nat) : Lib.hasPrefix (Lib.decDigits u) [45] = false := by
  have h := dec_isd u
  cases hd : Lib.decDigits u with
  | nil => rfl
  | cons b r =>
    rw [hd] at h
    have := isd_bd (h b (by simp))
    simp only [Lib.hasPrefix, List.isPrefixOf, Bool.and_true]
    apply beq_false_of_ne
    rintro rfl
    revert this; decide
theorem cut_itoa (n : Int) : Lib.trimPrefix (Lib.itoa n) [45] = Lib.decDigits n.natAbs ∧ Lib.hasPrefix (Lib.itoa n) [45] = decide (n < 0) := by
  by_cases h : n < 0
  · have e : Lib.itoa n = 45 :: Lib.decDigits n.natAbs := by unfold Lib.itoa; rw [if_pos h]
    have hp : Lib.hasPrefix (Lib.itoa n) [45] = true := by rw [e]; simp [Lib.hasPrefix, List.isPrefixOf]
    refine ⟨?_, by rw [hp]; simp [h]⟩
    unfold Lib.trimPrefix; rw [hp, e]; rfl
  · have e : Lib.itoa n = Lib.decDigits n.natAbs := by unfold Lib.itoa; rw [if_neg h]; congr 1; omega
    have hp : Lib.hasPrefix (Lib.itoa n) [45] = false := by rw [e]; exact dec_head _
    refine ⟨?_, by rw [hp]; simp [h]⟩
    unfold Lib.trimPrefix; rw [hp, e]; rfl
theorem repeat_one (c : UInt8) : ∀ k, Lib.repeatL [c] k = List.replicate k c
  | 0 => rfl
  | k + 1 => by rw [Lib.repeatL, repeat_one c k, List.replicate_succ]; rfl
theorem format_any (n : Int) (w : World) (hn : fits n) (ht : Tab w) :
    Calls Tryz.prog 105 #[.int .i64 n, .int .i64 10] w fun e w' => e = .returned (.string ⟨(Lib.itoa n).toArray⟩) ∧ Below w.heap.size w w' :=
  (Tryz.strconv_FormatInt_10 n hn.1 hn.2 w ht).mono fun e w' ⟨he, k, os, hw⟩ => ⟨he, hw ▸ Lib.below_grow _ _ (Nat.le_refl _) _ _⟩
theorem zeros_any (k : Nat) (w : World) (hk : k ≤ 100) :
    Calls Tryz.prog 106 #[.string ⟨#[48]⟩, .int .i64 k] w fun e w' => e = .returned (.string ⟨(List.replicate k 48).toArray⟩) ∧ Below w.heap.size w w' := by
  have h := Tryz.strings_Repeat ⟨#[48]⟩ k w (by omega) (by show 1 * k ≤ _; omega)
  rw [show ((⟨#[48]⟩ : ByteArray).data.toList) = [48] from rfl, repeat_one] at h
  exact h

set_option maxHeartbeats 800000 in
theorem put_any (n width : Int) (w : World) (hn : fits n) (hw : fits width) (ht : Tab w) :
    Calls Tryz.prog 80 #[.int .i64 n, .int .i64 width] w fun e w' =>
      e = .returned (.tuple #[.string ⟨(ptL n width).toArray⟩, ev (ptE width)]) ∧ Below w.heap.size w w' := by
  by_cases hr : width < 0 ∨ 20 < width
  · have e1 : ptL n width = [] := by unfold ptL; rw [if_pos hr]
    have e2 : ptE width = 1 := by unfold ptE; rw [if_pos hr]
    rw [e1, e2]; clear e1 e2
    have hr' : width < 0 ∨ (¬ width < 0 ∧ 20 < width) := by omega
    clear hr
    rcases hr' with h1 | ⟨h1, h2⟩
    all_goals
      go_enter Tryz.func80, Tryz.ntmps80
      go_wp2
      go_ret2
      exact ⟨rfl, Below.refl _ _⟩
  · have e2 : ptE width = 0 := by unfold ptE; rw [if_neg hr]
    rw [e2]; clear e2
    have h1 : 0 ≤ width := by omega
    have h2 : width ≤ 20 := by omega
    obtain ⟨W, rfl⟩ := Int.eq_ofNat_of_zero_le h1
    have e1 : ptL n W = if n < 0 then 45 :: pad W (Lib.decDigits n.natAbs) else pad W (Lib.decDigits n.natAbs) := by
      unfold ptL; rw [if_neg hr]; simp
    clear hr
    obtain ⟨ci, hi⟩ := cut_itoa n
    have hc := fun w => cutp_any ⟨(Lib.itoa n).toArray⟩ 45 w
    simp only [ci, hi] at hc
    have hf := format_any n w hn ht
    generalize Lib.itoa n = I at *
    have hu : n.natAbs < 10 ^ 19 := by
      unfold fits at hn
      have h : 9223372036854775808 < 10 ^ 19 := by decide
      omega
    have hl := dec_len (k := 19) (u := n.natAbs) (by decide) hu
    clear hu
    generalize hD : Lib.decDigits n.natAbs = D at *
    obtain ⟨k, hk⟩ : ∃ k : Nat, k = W - D.length := ⟨_, rfl⟩
    have hz := fun w => zeros_any k w (by omega)
    have hmax : max (0 : Int) ((W : Int) - (D.length : Int)) = (k : Int) := by omega
    have hsz : (⟨D.toArray⟩ : ByteArray).size = D.length := Lib.size_mk D
    have e3 : pad W D = List.replicate k 48 ++ D := by unfold pad; rw [hk]
    rw [e3] at e1
    have HC := Lib.hid hc; have HF := Lib.hid hf; have HZ := Lib.hid hz; have HE := Lib.hid e1
    clear ci hi hc hf hz e1 e3 hk hD ht hn hw
    by_cases hneg : n < 0
    · have e : ptL n W = 45 :: (List.replicate k 48 ++ D) := by rw [HE.out, if_pos hneg]
      rw [e]
      have hb : decide (n < 0) = true := by simpa using hneg
      rw [hb] at HC
      clear HE e hb
      go_enter Tryz.func80, Tryz.ntmps80
      go_wp2_with (first
        | (go_at_call 105; refine HF.out.mono ?_; rintro e w1 ⟨rfl, hb1⟩; have HB1 := Lib.hid hb1; clear hb1)
        | (go_at_call 104; refine (HC.out _).mono ?_; rintro e w' ⟨rfl, rfl⟩)
        | (go_at_call 106; refine (HZ.out _).mono ?_; rintro e w2 ⟨rfl, hb2⟩; have HB2 := Lib.hid hb2; clear hb2))
      go_ret2
      refine ⟨ret2_eq ?_ rfl, HB1.out.trans (HB2.out.mono HB1.out.size)⟩
      show Value.string (⟨[45].toArray⟩ ++ ⟨(List.replicate k 48).toArray⟩ ++ ⟨D.toArray⟩) = _
      rw [bs_append, bs_append]; rfl
    · have e : ptL n W = List.replicate k 48 ++ D := by rw [HE.out, if_neg hneg]
      rw [e]
      have hb : decide (n < 0) = false := by simpa using hneg
      rw [hb] at HC
      clear HE e hb
      go_enter Tryz.func80, Tryz.ntmps80
      go_wp2_with (first
        | (go_at_call 105; refine HF.out.mono ?_; rintro e w1 ⟨rfl, hb1⟩; have HB1 := Lib.hid hb1; clear hb1)
        | (go_at_call 104; refine (HC.out _).mono ?_; rintro e w' ⟨rfl, rfl⟩)
        | (go_at_call 106; refine (HZ.out _).mono ?_; rintro e w2 ⟨rfl, hb2⟩; have HB2 := Lib.hid hb2; clear hb2))
      go_ret2
      refine ⟨ret2_eq ?_ rfl, HB1.out.trans (HB2.out.mono HB1.out.size)⟩
      show Value.string (⟨(List.replicate k 48).toArray⟩ ++ ⟨D.toArray⟩) = _
      rw [bs_append]

/-! ### PutFraction, Short -/
/-- Isn't it a fraction? -/
def nf (nano : Int) : Prop := nano < 0 ∨ 999999999 < nano
instance (n : Int) : Decidable (nf n) := by unfold nf; infer_instance
end Go.Proofs.YtdonicaiimeleaaGreatDoor

namespace Go.Proofs.YtdonicaiimeleaaGreatDoor
open Go.RowKit
set_option linter.unusedVariables false

theorem ris_any (c : UInt8) (w : World) :
    Calls Tryz.prog 143 #[.int .u8 c.toNat] w fun e w' => e = .returned (.bool (isd c)) ∧ w = w' := by
  obtain ⟨n, hn⟩ : ∃ n, n = c.toNat := ⟨_, rfl⟩
  have hd : RowKit.Hid (isd c = (decide (48 ≤ n) && decide (n ≤ 57))) := by rw [hn]; exact rfl
  have hn256 : n < 256 := by rw [hn]; exact c.toNat_lt
  rw [← hn]
  clear hn
  go_enter Tryz.func143, Tryz.ntmps143
  go_wp2
  go_loop [3] (fun v => ∃ k : Nat, 48 ≤ k ∧ k ≤ 58 ∧ (n < 48 ∨ k ≤ n) ∧ v = .int .u8 k) (fun v => 58 - (intOf v).toNat)
  case atStart => exact ⟨48, by omega, by omega, by omega, rfl⟩
  case round =>
    obtain ⟨k, h1, h2, h3, rfl⟩ := hrel
    by_cases hlt : k ≤ 57
    · by_cases he : n = k
      · subst he
        go_wp2
        go_ret
        exact ⟨ret1_eq (bool_eq (by rw [hd.out]; simp; omega)), rfl⟩
      · have he' : ((n : Int) == (k : Int)) = false := by simp; omega
        go_wp2
        go_round
        case rel => exact ⟨k + 1, by omega, by omega, by omega, by go_num⟩
        case measure => simp [intOf]; omega
    · go_wp2
      go_ret
      exact ⟨ret1_eq (bool_eq (by rw [hd.out]; simp; omega)), rfl⟩
theorem ris_yes (c : UInt8) (w : World) (h : isd c = true) :
    Calls Tryz.prog 143 #[.int .u8 c.toNat] w fun e w' => e = .returned (.bool true) ∧ w = w' := h ▸ ris_any c w
theorem ris_no (c : UInt8) (w : World) (h : isd c = false) :
    Calls Tryz.prog 143 #[.int .u8 c.toNat] w fun e w' => e = .returned (.bool false) ∧ w = w' := h ▸ ris_any c w

set_option maxHeartbeats 400000 in
theorem many_any (s : ByteArray) (w : World) (hs : s.size ≤ maxLen) :
    Calls Tryz.prog 110 #[.string s] w fun e w' => e = .returned (.int .i64 (lead s.data.toList : Nat)) ∧ w = w' := by
  unfold maxLen at hs
  have hsz : s.data.toList.length = s.size := by simp
  have hle := lead_le s.data.toList
  have HSZ := Lib.hid hsz
  rw [hsz] at hle; clear hsz
  go_enter Tryz.func110, Tryz.ntmps110
  go_wp2
  go_loop [3] (fun i => ∃ k : Nat, k ≤ s.size ∧ k ≤ lead s.data.toList ∧ i = .int .i64 k) (fun i => s.size - (intOf i).toNat)
  case atStart => exact ⟨0, Nat.zero_le _, Nat.zero_le _, rfl⟩
  case round =>
    obtain ⟨k, hk, hkl, rfl⟩ := hrel
    by_cases hlt : k < s.size
    · cases hd : isd s[k]
      · have e := lead_at (l := s.data.toList) (by rw [HSZ.out]; exact hlt) hkl hd
        have E := Lib.hid e; clear e
        have HD := Lib.hid hd; clear hd
        go_wp2_with (go_at_call 143; refine (ris_no _ _ HD.out).mono ?_; rintro e w' ⟨rfl, rfl⟩)
        go_ret
        exact ⟨ret1_eq (int_eq (by rw [E.out])), rfl⟩
      · have hu := lead_up (l := s.data.toList) (by rw [HSZ.out]; exact hlt) hkl hd
        have HD := Lib.hid hd; clear hd
        go_wp2_with (go_at_call 143; refine (ris_yes _ _ HD.out).mono ?_; rintro e w' ⟨rfl, rfl⟩)
        go_round
        case rel => exact ⟨k + 1, by omega, hu, by go_num⟩
        case measure => simp [intOf]; omega
    · go_wp2
      go_ret
      exact ⟨ret1_eq (int_eq (by omega)), rfl⟩

/-! ### Raw -/
/-- A number's figures, none for 0. -/
def decs (n : Nat) : List UInt8 := if n = 0 then [] else Lib.decDigits n
theorem decs_step {n : Nat} (h : 0 < n) : decs n = decs (n / 10) ++ [UInt8.ofNat (48 + n % 10)] := by
  unfold decs
  rw [if_neg (by omega), Lib.decDigits]
  by_cases h10 : n < 10
  · rw [dif_pos h10, if_pos (by omega), Nat.mod_eq_of_lt h10]; rfl
  · rw [dif_neg h10, if_neg (by omega)]
theorem pad_decs {n m j : Nat} {l : List UInt8} (h : l = List.replicate j 48 ++ decs n) (hj : j = 0 ∨ l.length ≤ m ∨ l.length ≤ 1) (hm : m ≤ l.length) (h1 : 0 < l.length) :
    l = pad m (Lib.decDigits n) := by
  subst h
  unfold pad
  simp only [List.length_append, List.length_replicate] at *
  by_cases h0 : n = 0
  · subst h0
    simp only [decs, if_true, List.length_nil, Nat.add_zero, List.append_nil] at *
    rw [Lib.decDigits_one (by decide)]
    show _ = List.replicate (m - 1) 48 ++ [48]
    rw [← List.replicate_succ', show m - 1 + 1 = j by omega]
  · have e : decs n = Lib.decDigits n := by unfold decs; rw [if_neg h0]
    rw [e] at hj hm h1 ⊢
    have := dec_pos n
    congr 2
    omega

theorem one_figure (x : Nat) (w : World) :
    (convert 84 9 (.slice (some ⟨w.heap.size, 0, none⟩) 1 1)).run Tryz.prog (w.alloc (.cells #[.int .u8 (48 + (x : Int) % 10)] 5)) =
      .ok (.string ⟨[UInt8.ofNat (48 + x % 10)].toArray⟩) (w.alloc (.cells #[.int .u8 (48 + (x : Int) % 10)] 5)) := by
  refine run_convert_bytes_back _ _ _ 5 ⟨w.heap.size, 0, none⟩ 1 [UInt8.ofNat (48 + x % 10)] Tryz.underlying84 Tryz.underlying5 Tryz.underlying9 ?_
  intro j hj
  have : j = 0 := by simpa using hj
  subst this
  have e := (isd_ofNat (d := x % 10) (Nat.mod_lt _ (by decide))).2
  simp only [List.getElem_cons_zero, e]
  show (w.alloc _).cell? ⟨w.heap.size, 0, none⟩ = _
  rw [World.cell?_alloc_mark]
  simp
theorem decs_len {n : Nat} (h : n < 10 ^ 19) : (decs n).length ≤ 19 := by
  unfold decs; split
  · simp
  · exact dec_len (by decide) h
set_option maxRecDepth 100000 in
set_option maxHeartbeats 800000 in
theorem raw_any (n m : Nat) (w : World) (hn : n ≤ 9223372036854775807) (hm : m ≤ 100) :
    Calls Tryz.prog 31 #[.int .i64 n, .int .i64 m] w fun e w' => e = .returned (.string ⟨(pad m (Lib.decDigits n)).toArray⟩) ∧ Below w.heap.size w w' := by
  have HD := Lib.hid (decs_len (n := n) (by have h : 9223372036854775807 < 10 ^ 19 := by decide
                                            omega))
  go_enter Tryz.func31, Tryz.ntmps31
  go_wp2
  go_loopw [0, 5] (fun v t wr => ∃ (x : Nat) (l : List UInt8), RowKit.Hid (decs x ++ l = decs n) ∧ x ≤ 9223372036854775807 ∧ v = .int .i64 x ∧ t = .string ⟨l.toArray⟩ ∧ RowKit.Hid (Below w.heap.size w wr)) (fun v _ _ => (intOf v).toNat)
  case atStart => exact ⟨n, [], by show _ = _; simp, hn, rfl, rfl, Below.refl _ _⟩
  case round =>
    obtain ⟨x, l, HL, hx, rfl, rfl, HB⟩ := hrel
    have hl : l.length ≤ 19 := by have h1 := congrArg List.length HL.out; have h2 := HD.out; simp at h1; omega
    have hls : (⟨l.toArray⟩ : ByteArray).size ≤ 19 := by rw [Lib.size_mk]; exact hl
    by_cases h0 : 0 < x
    · have kc := fun w => one_figure x w
      have hst := decs_step h0
      have HST : RowKit.Hid (decs (x / 10) ++ ([UInt8.ofNat (48 + x % 10)] ++ l) = decs n) := by rw [← List.append_assoc, ← hst]; exact HL.out
      clear hst
      go_wp2
      go_roundw
      case rel => exact ⟨x / 10, [UInt8.ofNat (48 + x % 10)] ++ l, HST, by omega, by go_num, by rw [← bs_append]; simp, (HB.out.alloc HB.out.size _)⟩
      case measure => simp [intOf]; omega
    · have hx0 : x = 0 := by omega
      subst hx0
      have HL' : RowKit.Hid (l = List.replicate 0 48 ++ decs n) := by have h := HL.out; rw [show decs 0 = [] from rfl, List.nil_append] at h; rw [h]; exact rfl
      clear h0 HL
      go_wp2
      go_loop [5] (fun t => ∃ (j : Nat) (l : List UInt8), RowKit.Hid (l = List.replicate j 48 ++ decs n) ∧ t = .string ⟨l.toArray⟩ ∧ (j = 0 ∨ l.length ≤ m ∨ l.length ≤ 1) ∧ l.length ≤ 200) (fun t => 300 - Lib.strSize t)
      case atStart => exact ⟨0, l, HL', rfl, .inl rfl, by omega⟩
      case round =>
        obtain ⟨j, l, HL, rfl, hj, hl⟩ := hrel
        have hls : (⟨l.toArray⟩ : ByteArray).size ≤ 200 := by rw [Lib.size_mk]; exact hl
        have HJ := Lib.hid hj; clear hj
        have HN : RowKit.Hid (48 :: l = List.replicate (j + 1) 48 ++ decs n) := by rw [List.replicate_succ, HL.out]; exact rfl
        by_cases h1 : l.length < m
        · go_wp2
          go_round
          case rel => exact ⟨j + 1, 48 :: l, HN, rfl, by simp; omega, by simp; omega⟩
          case measure => rw [Lib.strSize_string, Lib.strSize_string, Lib.size_mk, Lib.size_mk]; simp; omega
        · by_cases h2 : l.length = 0
          · obtain rfl : l = [] := List.eq_nil_of_length_eq_zero h2
            clear h1 h2 hl hls
            have e : (⟨#[48]⟩ : ByteArray) ++ ⟨#[]⟩ = ⟨[48].toArray⟩ := bs_append [48] []
            have E := Lib.hid e; clear e
            go_wp2
            all_goals
              rw [E.out]
              exact ⟨⟨j + 1, [48], HN, rfl, .inr (.inr (by decide)), by decide⟩, by decide⟩
          · go_wp2
            go_ret
            exact ⟨ret1_eq (congrArg Value.string (by rw [pad_decs HL.out (by have := HJ.out; omega) (by omega) (by omega)])), HB.out⟩

/-! ### Put -/
/-- The figures of 2^63. -/
def lowest : List UInt8 := [57, 50, 50, 51, 51, 55, 50, 48, 51, 54, 56, 53, 52, 55, 55, 53, 56, 48, 56]
end Go.Proofs.YtdonicaiimeleaaGreatDoor
