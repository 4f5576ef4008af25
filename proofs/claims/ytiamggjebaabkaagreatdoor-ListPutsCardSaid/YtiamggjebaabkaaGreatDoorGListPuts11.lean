/- Merged: FigC, RefA, BigM, BigA, BigB, BigD, BigH, RefC, ListD. -/
import Derived.Test.YtiamggjebaabkaaGreatDoorGListPuts3
import Derived.Lib.AppendIntMem
import Derived.Outline
import Derived.LoopTactic
import Derived.Laws.IdiomStrings
import Derived.RowKit
import Derived.Test.YtiamggjebaabkaaGreatDoorGListPuts1
import Derived.Deep.Draws
import Derived.Laws.OwnMore
import Derived.Maps.AppendAt
import Derived.BigQuiet
import Derived.Deep.QuietTactic
import Derived.OwnWalk
import Derived.Deep.RegionWith
import Derived.Deep.DeepCutAuto
import Derived.Deep.CutRange
import Derived.Deep.RegionHeld3
import Derived.Deep.CutBlock
import Derived.Deep.LoopGhost
import Derived.Test.YtiamggjebaabkaaGreatDoorGListPuts10
import Derived.Laws.Concat
import Derived.Test.YtiamggjebaabkaaGreatDoorGListPuts4
namespace Go.Proofs.YtiamggjebaabkaaGreatDoor
open Go.RowKit
set_option linter.unusedVariables false

/-- The library's table of powers of ten. -/
def Tab (w : World) : Prop := Lib.TabIs Tryz.prog w "internal/strconv.uint64pow10" .u64 Lib.pow10Tab
theorem gtab : Tryz.prog.globalNamed "internal/strconv.uint64pow10" = some 6 := by kernel_rfl
theorem Tab.below {w w' : World} (h : Tab w) (hb : Below w.heap.size w w') : Tab w' := Joins.tab_stays gtab h hb (Nat.le_refl _)

def ptE (width : Int) : Int := if width < 0 ∨ 20 < width then 1 else 0
def ptL (n width : Int) : List UInt8 :=
  if width < 0 ∨ 20 < width then [] else if n < 0 then 45 :: pad width.toNat (Lib.decDigits n.natAbs) else pad width.toNat (Lib.decDigits n.natAbs)

theorem bs_append (a b : List UInt8) : (⟨a.toArray⟩ : ByteArray) ++ ⟨b.toArray⟩ = ⟨(a ++ b).toArray⟩ := by
  apply ByteArray.ext; simp
theorem dec_head (u : Nat) : Lib.hasPrefix (Lib.decDigits u) [45] = false := by
  have h := dec_isd u
  cases hd : Lib.decDigits u with
  | nil => rfl
  | cons b r =>
    rw [hd] at h
    have := isd_bd (h b (by simp))
    simp only [Lib.hasPrefix, List.isPrefixOf, Bool.and_true]
    apply beq_false_of_ne
    rintro rfl
    revert this; decide
theorem cut_itoa (n : Int) : Lib.trimPrefix (Lib.itoa n) [45] = Lib.decDigits n.natAbs ∧ Lib.hasPrefix (Lib.itoa n) [45] = decide (n < 0) := by
  by_cases h : n < 0
  · have e : Lib.itoa n = 45 :: Lib.decDigits n.natAbs := by unfold Lib.itoa; rw [if_pos h]
    have hp : Lib.hasPrefix (Lib.itoa n) [45] = true := by rw [e]; simp [Lib.hasPrefix, List.isPrefixOf]
    refine ⟨?_, by rw [hp]; simp [h]⟩
    unfold Lib.trimPrefix; rw [hp, e]; rfl
  · have e : Lib.itoa n = Lib.decDigits n.natAbs := by unfold Lib.itoa; rw [if_neg h]; congr 1; omega
    have hp : Lib.hasPrefix (Lib.itoa n) [45] = false := by rw [e]; exact dec_head _
    refine ⟨?_, by rw [hp]; simp [h]⟩
    unfold Lib.trimPrefix; rw [hp, e]; rfl
theorem repeat_one (c : UInt8) : ∀ k, Lib.repeatL [c] k = List.replicate k c
  | 0 => rfl
  | k + 1 => by rw [Lib.repeatL, repeat_one c k, List.replicate_succ]; rfl
theorem format_any (n : Int) (w : World) (hn : fits n) (ht : Tab w) :
    Calls Tryz.prog 89 #[.int .i64 n, .int .i64 10] w fun e w' => e = .returned (.string ⟨(Lib.itoa n).toArray⟩) ∧ Below w.heap.size w w' :=
  (Tryz.strconv_FormatInt_10 n hn.1 hn.2 w ht).mono fun e w' ⟨he, k, os, hw⟩ => ⟨he, hw ▸ Lib.below_grow _ _ (Nat.le_refl _) _ _⟩
theorem zeros_any (k : Nat) (w : World) (hk : k ≤ 100) :
    Calls Tryz.prog 90 #[.string ⟨#[48]⟩, .int .i64 k] w fun e w' => e = .returned (.string ⟨(List.replicate k 48).toArray⟩) ∧ Below w.heap.size w w' := by
  have h := Tryz.strings_Repeat ⟨#[48]⟩ k w (by omega) (by show 1 * k ≤ _; omega)
  rw [show ((⟨#[48]⟩ : ByteArray).data.toList) = [48] from rfl, repeat_one] at h
  exact h

set_option maxHeartbeats 800000 in
theorem put_any (n width : Int) (w : World) (hn : fits n) (hw : fits width) (ht : Tab w) :
    Calls Tryz.prog 63 #[.int .i64 n, .int .i64 width] w fun e w' =>
      e = .returned (.tuple #[.string ⟨(ptL n width).toArray⟩, ev (ptE width)]) ∧ Below w.heap.size w w' := by
  by_cases hr : width < 0 ∨ 20 < width
  · have e1 : ptL n width = [] := by unfold ptL; rw [if_pos hr]
    have e2 : ptE width = 1 := by unfold ptE; rw [if_pos hr]
    rw [e1, e2]; clear e1 e2
    have hr' : width < 0 ∨ (¬ width < 0 ∧ 20 < width) := by omega
    clear hr
    rcases hr' with h1 | ⟨h1, h2⟩
    all_goals
      go_enter Tryz.func63, Tryz.ntmps63
      go_wp2
      go_ret2
      exact ⟨rfl, Below.refl _ _⟩
  · have e2 : ptE width = 0 := by unfold ptE; rw [if_neg hr]
    rw [e2]; clear e2
    have h1 : 0 ≤ width := by omega
    have h2 : width ≤ 20 := by omega
    obtain ⟨W, rfl⟩ := Int.eq_ofNat_of_zero_le h1
    have e1 : ptL n W = if n < 0 then 45 :: pad W (Lib.decDigits n.natAbs) else pad W (Lib.decDigits n.natAbs) := by
      unfold ptL; rw [if_neg hr]; simp
    clear hr
    obtain ⟨ci, hi⟩ := cut_itoa n
    have hc := fun w => cutp_any ⟨(Lib.itoa n).toArray⟩ 45 w
    simp only [ci, hi] at hc
    have hf := format_any n w hn ht
    generalize Lib.itoa n = I at *
    have hu : n.natAbs < 10 ^ 19 := by
      unfold fits at hn
      have h : 9223372036854775808 < 10 ^ 19 := by decide
      omega
    have hl := dec_len (k := 19) (u := n.natAbs) (by decide) hu
    clear hu
    generalize hD : Lib.decDigits n.natAbs = D at *
    obtain ⟨k, hk⟩ : ∃ k : Nat, k = W - D.length := ⟨_, rfl⟩
    have hz := fun w => zeros_any k w (by omega)
    have hmax : max (0 : Int) ((W : Int) - (D.length : Int)) = (k : Int) := by omega
    have hsz : (⟨D.toArray⟩ : ByteArray).size = D.length := Lib.size_mk D
    have e3 : pad W D = List.replicate k 48 ++ D := by unfold pad; rw [hk]
    rw [e3] at e1
    have HC := Lib.hid hc; have HF := Lib.hid hf; have HZ := Lib.hid hz; have HE := Lib.hid e1
    clear ci hi hc hf hz e1 e3 hk hD ht hn hw
    by_cases hneg : n < 0
    · have e : ptL n W = 45 :: (List.replicate k 48 ++ D) := by rw [HE.out, if_pos hneg]
      rw [e]
      have hb : decide (n < 0) = true := by simpa using hneg
      rw [hb] at HC
      clear HE e hb
      go_enter Tryz.func63, Tryz.ntmps63
      go_wp2_with (first
        | (go_at_call 89; refine HF.out.mono ?_; rintro e w1 ⟨rfl, hb1⟩; have HB1 := Lib.hid hb1; clear hb1)
        | (go_at_call 88; refine (HC.out _).mono ?_; rintro e w' ⟨rfl, rfl⟩)
        | (go_at_call 90; refine (HZ.out _).mono ?_; rintro e w2 ⟨rfl, hb2⟩; have HB2 := Lib.hid hb2; clear hb2))
      go_ret2
      refine ⟨ret2_eq ?_ rfl, HB1.out.trans (HB2.out.mono HB1.out.size)⟩
      show Value.string (⟨[45].toArray⟩ ++ ⟨(List.replicate k 48).toArray⟩ ++ ⟨D.toArray⟩) = _
      rw [bs_append, bs_append]; rfl
    · have e : ptL n W = List.replicate k 48 ++ D := by rw [HE.out, if_neg hneg]
      rw [e]
      have hb : decide (n < 0) = false := by simpa using hneg
      rw [hb] at HC
      clear HE e hb
      go_enter Tryz.func63, Tryz.ntmps63
      go_wp2_with (first
        | (go_at_call 89; refine HF.out.mono ?_; rintro e w1 ⟨rfl, hb1⟩; have HB1 := Lib.hid hb1; clear hb1)
        | (go_at_call 88; refine (HC.out _).mono ?_; rintro e w' ⟨rfl, rfl⟩)
        | (go_at_call 90; refine (HZ.out _).mono ?_; rintro e w2 ⟨rfl, hb2⟩; have HB2 := Lib.hid hb2; clear hb2))
      go_ret2
      refine ⟨ret2_eq ?_ rfl, HB1.out.trans (HB2.out.mono HB1.out.size)⟩
      show Value.string (⟨(List.replicate k 48).toArray⟩ ++ ⟨D.toArray⟩) = _
      rw [bs_append]

/-! ### PutFraction, Short -/
/-- Isn't it a fraction? -/
def nf (nano : Int) : Prop := nano < 0 ∨ 999999999 < nano
instance (n : Int) : Decidable (nf n) := by unfold nf; infer_instance
end Go.Proofs.YtiamggjebaabkaaGreatDoor

namespace Go.Proofs.YtiamggjebaabkaaGreatDoor
open Go.RowKit
set_option linter.unusedVariables false

/-! ### Raw -/
/-- A number's figures, none for 0. -/
def decs (n : Nat) : List UInt8 := if n = 0 then [] else Lib.decDigits n
theorem decs_step {n : Nat} (h : 0 < n) : decs n = decs (n / 10) ++ [UInt8.ofNat (48 + n % 10)] := by
  unfold decs
  rw [if_neg (by omega), Lib.decDigits]
  by_cases h10 : n < 10
  · rw [dif_pos h10, if_pos (by omega), Nat.mod_eq_of_lt h10]; rfl
  · rw [dif_neg h10, if_neg (by omega)]
theorem pad_decs {n m j : Nat} {l : List UInt8} (h : l = List.replicate j 48 ++ decs n) (hj : j = 0 ∨ l.length ≤ m ∨ l.length ≤ 1) (hm : m ≤ l.length) (h1 : 0 < l.length) :
    l = pad m (Lib.decDigits n) := by
  subst h
  unfold pad
  simp only [List.length_append, List.length_replicate] at *
  by_cases h0 : n = 0
  · subst h0
    simp only [decs, if_true, List.length_nil, Nat.add_zero, List.append_nil] at *
    rw [Lib.decDigits_one (by decide)]
    show _ = List.replicate (m - 1) 48 ++ [48]
    rw [← List.replicate_succ', show m - 1 + 1 = j by omega]
  · have e : decs n = Lib.decDigits n := by unfold decs; rw [if_neg h0]
    rw [e] at hj hm h1 ⊢
    have := dec_pos n
    congr 2
    omega

theorem one_figure (x : Nat) (w : World) :
    (convert 59 9 (.slice (some ⟨w.heap.size, 0, none⟩) 1 1)).run Tryz.prog (w.alloc (.cells #[.int .u8 (48 + (x : Int) % 10)] 5)) =
      .ok (.string ⟨[UInt8.ofNat (48 + x % 10)].toArray⟩) (w.alloc (.cells #[.int .u8 (48 + (x : Int) % 10)] 5)) := by
  refine run_convert_bytes_back _ _ _ 5 ⟨w.heap.size, 0, none⟩ 1 [UInt8.ofNat (48 + x % 10)] Tryz.underlying59 Tryz.underlying5 Tryz.underlying9 ?_
  intro j hj
  have : j = 0 := by simpa using hj
  subst this
  have e := (isd_ofNat (d := x % 10) (Nat.mod_lt _ (by decide))).2
  simp only [List.getElem_cons_zero, e]
  show (w.alloc _).cell? ⟨w.heap.size, 0, none⟩ = _
  rw [World.cell?_alloc_mark]
  simp
theorem decs_len {n : Nat} (h : n < 10 ^ 19) : (decs n).length ≤ 19 := by
  unfold decs; split
  · simp
  · exact dec_len (by decide) h
set_option maxRecDepth 100000 in
set_option maxHeartbeats 800000 in
theorem raw_any (n m : Nat) (w : World) (hn : n ≤ 9223372036854775807) (hm : m ≤ 100) :
    Calls Tryz.prog 46 #[.int .i64 n, .int .i64 m] w fun e w' => e = .returned (.string ⟨(pad m (Lib.decDigits n)).toArray⟩) ∧ Below w.heap.size w w' := by
  have HD := Lib.hid (decs_len (n := n) (by have h : 9223372036854775807 < 10 ^ 19 := by decide
                                            omega))
  go_enter Tryz.func46, Tryz.ntmps46
  go_wp2
  go_loopw [0, 5] (fun v t wr => ∃ (x : Nat) (l : List UInt8), RowKit.Hid (decs x ++ l = decs n) ∧ x ≤ 9223372036854775807 ∧ v = .int .i64 x ∧ t = .string ⟨l.toArray⟩ ∧ RowKit.Hid (Below w.heap.size w wr)) (fun v _ _ => (intOf v).toNat)
  case atStart => exact ⟨n, [], by show _ = _; simp, hn, rfl, rfl, Below.refl _ _⟩
  case round =>
    obtain ⟨x, l, HL, hx, rfl, rfl, HB⟩ := hrel
    have hl : l.length ≤ 19 := by have h1 := congrArg List.length HL.out; have h2 := HD.out; simp at h1; omega
    have hls : (⟨l.toArray⟩ : ByteArray).size ≤ 19 := by rw [Lib.size_mk]; exact hl
    by_cases h0 : 0 < x
    · have kc := fun w => one_figure x w
      have hst := decs_step h0
      have HST : RowKit.Hid (decs (x / 10) ++ ([UInt8.ofNat (48 + x % 10)] ++ l) = decs n) := by rw [← List.append_assoc, ← hst]; exact HL.out
      clear hst
      go_wp2
      go_roundw
      case rel => exact ⟨x / 10, [UInt8.ofNat (48 + x % 10)] ++ l, HST, by omega, by go_num, by rw [← bs_append]; simp, (HB.out.alloc HB.out.size _)⟩
      case measure => simp [intOf]; omega
    · have hx0 : x = 0 := by omega
      subst hx0
      have HL' : RowKit.Hid (l = List.replicate 0 48 ++ decs n) := by have h := HL.out; rw [show decs 0 = [] from rfl, List.nil_append] at h; rw [h]; exact rfl
      clear h0 HL
      go_wp2
      go_loop [5] (fun t => ∃ (j : Nat) (l : List UInt8), RowKit.Hid (l = List.replicate j 48 ++ decs n) ∧ t = .string ⟨l.toArray⟩ ∧ (j = 0 ∨ l.length ≤ m ∨ l.length ≤ 1) ∧ l.length ≤ 200) (fun t => 300 - Lib.strSize t)
      case atStart => exact ⟨0, l, HL', rfl, .inl rfl, by omega⟩
      case round =>
        obtain ⟨j, l, HL, rfl, hj, hl⟩ := hrel
        have hls : (⟨l.toArray⟩ : ByteArray).size ≤ 200 := by rw [Lib.size_mk]; exact hl
        have HJ := Lib.hid hj; clear hj
        have HN : RowKit.Hid (48 :: l = List.replicate (j + 1) 48 ++ decs n) := by rw [List.replicate_succ, HL.out]; exact rfl
        by_cases h1 : l.length < m
        · go_wp2
          go_round
          case rel => exact ⟨j + 1, 48 :: l, HN, rfl, by simp; omega, by simp; omega⟩
          case measure => rw [Lib.strSize_string, Lib.strSize_string, Lib.size_mk, Lib.size_mk]; simp; omega
        · by_cases h2 : l.length = 0
          · obtain rfl : l = [] := List.eq_nil_of_length_eq_zero h2
            clear h1 h2 hl hls
            have e : (⟨#[48]⟩ : ByteArray) ++ ⟨#[]⟩ = ⟨[48].toArray⟩ := bs_append [48] []
            have E := Lib.hid e; clear e
            go_wp2
            all_goals
              rw [E.out]
              exact ⟨⟨j + 1, [48], HN, rfl, .inr (.inr (by decide)), by decide⟩, by decide⟩
          · go_wp2
            go_ret
            exact ⟨ret1_eq (congrArg Value.string (by rw [pad_decs HL.out (by have := HJ.out; omega) (by omega) (by omega)])), HB.out⟩

/-! ### Put -/
/-- The figures of 2^63. -/
def lowest : List UInt8 := [57, 50, 50, 51, 51, 55, 50, 48, 51, 54, 56, 53, 52, 55, 55, 53, 56, 48, 56]
end Go.Proofs.YtiamggjebaabkaaGreatDoor

namespace Go.Proofs.YtiamggjebaabkaaGreatDoor

/-- The number of a row of digits, the lowest first. -/
def nv : List Nat → Nat
  | [] => 0
  | d :: r => d + 65536 * nv r
/-- The digit at i; 0 beyond the last one. -/
def dg (ds : List Nat) (i : Nat) : Nat := ds.getD i 0
/-- The number of the digits from i on. -/
def vd (ds : List Nat) (i : Nat) : Nat := nv (ds.drop i)
/-- All digits are less than the base. -/
def low (ds : List Nat) : Prop := ∀ d ∈ ds, d < 65536

theorem nv_snoc (ds : List Nat) (d : Nat) : nv (ds ++ [d]) = nv ds + 65536 ^ ds.length * d := by
  induction ds with
  | nil => simp [nv]
  | cons x r ih =>
    simp only [List.cons_append, nv, ih, List.length_cons, Nat.pow_succ]
    rw [Nat.mul_add, Nat.add_assoc]
    congr 2
    rw [Nat.mul_comm (65536 ^ r.length) 65536, Nat.mul_assoc]
theorem low_snoc {ds : List Nat} {d : Nat} (h : low ds) (hd : d < 65536) : low (ds ++ [d]) := by
  intro x hx
  rcases List.mem_append.mp hx with hx | hx
  · exact h x hx
  · rw [List.mem_singleton.mp hx]; exact hd
theorem low_take {ds : List Nat} (h : low ds) (i : Nat) : low (ds.take i) := fun d hd => h d (List.mem_of_mem_take hd)

theorem dg_take {ds : List Nat} {n j : Nat} (h : j < n) : dg (ds.take n) j = dg ds j := by
  unfold dg
  simp only [List.getD_eq_getElem?_getD]
  rw [List.getElem?_take_of_lt h]
end Go.Proofs.YtiamggjebaabkaaGreatDoor

namespace Go.Proofs.YtiamggjebaabkaaGreatDoor
open Go.RowKit

/-- The slice at A reads as the digits ds. -/
def Rd (w : World) (A : Option Addr) (ds : List Nat) : Prop :=
  low ds ∧ (ds = [] ∨ ∃ b : Nat, A = some ⟨b, 0, none⟩ ∧ b < w.heap.size ∧ ∀ j, j < ds.length → w.cell? ⟨b, j, none⟩ = some (.int .u64 (dg ds j)))

theorem Rd.below {w w' : World} {A : Option Addr} {ds : List Nat} (h : Rd w A ds) (hb : Below w.heap.size w w') : Rd w' A ds := by
  refine ⟨h.1, h.2.imp id ?_⟩
  rintro ⟨b, hA, hlt, hc⟩
  exact ⟨b, hA, Nat.lt_of_lt_of_le hlt hb.size, fun j hj => (hb.cell (p := ⟨b, j, none⟩) hlt).trans (hc j hj)⟩
theorem Rd.drewN {w : World} {A : Option Addr} {ds : List Nat} (h : Rd w A ds) (n : Nat) : Rd (w.drewN n) A ds := h
theorem Rd.cell {w : World} {A : Option Addr} {ds : List Nat} (h : Rd w A ds) {i : Nat} (hi : i < ds.length) : ∃ b, A = some ⟨b, 0, none⟩ ∧ b < w.heap.size ∧ w.cell? ⟨b, i, none⟩ = some (.int .u64 (dg ds i)) := by
  rcases h.2 with rfl | ⟨b, hA, hlt, hc⟩
  · simp at hi
  · exact ⟨b, hA, hlt, hc i hi⟩
theorem Rd.take_ {w : World} {A : Option Addr} {ds : List Nat} (h : Rd w A ds) (n : Nat) (hn : n ≤ ds.length) : Rd w A (ds.take n) := by
  refine ⟨low_take h.1 n, h.2.imp (fun e => by rw [e]; simp) ?_⟩
  rintro ⟨b, hA, hlt, hc⟩
  refine ⟨b, hA, hlt, fun j hj => ?_⟩
  rw [List.length_take] at hj
  rw [dg_take (by omega)]
  exact hc j (by omega)
/-- Is a row without a 0 at its end? -/
def trim (ds : List Nat) : Prop := 0 < ds.length → 0 < nv ds

end Go.Proofs.YtiamggjebaabkaaGreatDoor

namespace Go.Proofs.YtiamggjebaabkaaGreatDoor
open Go.RowKit

/-- The cells of a row of digits. -/
def cl (ds : List Nat) : List Value := ds.map fun d : Nat => Value.int .u64 (d : Int)
/-- The slice v is the call's own, and holds the digits ds. -/
def Own (w : World) (base : Nat) (v : Value) (ds : List Nat) : Prop := w.ownsRow base 105 1 v ds.length (cl ds)
theorem Own.below {w w' : World} {base B : Nat} {v : Value} {ds : List Nat} (h : Own w base v ds) (hb : Below B w w') (hB : w.heap.size ≤ B) : Own w' base v ds := by
  refine ⟨h.1, h.2.imp id ?_⟩
  rintro ⟨g, cap, cur, hv, hbg, hh, r⟩
  refine ⟨g, cap, cur, hv, hbg, ?_, r⟩
  rw [hb.block g (Nat.lt_of_lt_of_le (World.ownsRow.lt h g (by rw [hv]; rfl)).2 hB)]
  exact hh
theorem Own.drewN {w : World} {base : Nat} {v : Value} {ds : List Nat} (h : Own w base v ds) (n : Nat) : Own (w.drewN n) base v ds := h
end Go.Proofs.YtiamggjebaabkaaGreatDoor

namespace Go.Proofs.YtiamggjebaabkaaGreatDoor
open Go.RowKit

/-- The value v is a Big that is the number z, of at most k digits. -/
def BV (w : World) (v : Value) (z : Int) (k : Nat) : Prop :=
  ∃ (A : Option Addr) (ds : List Nat) (c : Nat), v = .agg #[.bool (decide (z < 0)), .slice A ds.length c] ∧ Rd w A ds ∧ ds.length ≤ c ∧ c ≤ maxLen ∧ ds.length ≤ k ∧ nv ds = z.natAbs ∧ trim ds
theorem BV.below {w w' : World} {v : Value} {z : Int} {k : Nat} (h : BV w v z k) (hb : Below w.heap.size w w') : BV w' v z k := by
  obtain ⟨A, ds, c, h1, h2, h3⟩ := h
  exact ⟨A, ds, c, h1, h2.below hb, h3⟩

/-- What the loop of Of keeps. -/
def OfRel (a x : Int) (ds : List Nat) : Prop :=
  low ds ∧ nv ds + 65536 ^ ds.length * x.natAbs = a.natAbs ∧ fits x ∧ ds.length ≤ 4 ∧ (0 < ds.length → a ≠ 0) ∧ (ds.length = 0 → x = a)
theorem OfRel.step {a x : Int} {ds : List Nat} (h : OfRel a x ds) (ha : fits a) (hx : x ≠ 0) : OfRel a (x.tdiv 65536) (ds ++ [x.natAbs % 65536]) ∧ ds.length < 4 := by
  obtain ⟨h1, h2, h3, h4, h5, h6⟩ := h
  have ha' : a.natAbs ≤ 9223372036854775808 := by unfold fits at ha; omega
  have hlt : ds.length < 4 := by
    rcases Nat.lt_or_ge ds.length 4 with h | h
    · exact h
    · exfalso
      have e : ds.length = 4 := by omega
      rw [e] at h2
      omega
  refine ⟨⟨low_snoc h1 (Nat.mod_lt _ (by omega)), ?_, ?_, by rw [List.length_append]; simp; omega, fun _ => ?_, fun h => by simp at h⟩, hlt⟩
  · rw [nv_snoc, List.length_append, List.length_singleton, Nat.pow_succ, Int.natAbs_tdiv, ← h2, Nat.add_assoc, Nat.mul_assoc, ← Nat.mul_add]
    congr 2
    exact Nat.mod_add_div _ _
  · refine tdiv_fit h3 (by decide) (by decide)
  · rcases Nat.eq_zero_or_pos ds.length with h0 | h0
    · rw [← h6 h0]; exact hx
    · exact h5 h0
end Go.Proofs.YtiamggjebaabkaaGreatDoor

namespace Go.Proofs.YtiamggjebaabkaaGreatDoor
open Go.RowKit

/-- The part of the number that the digits from i on are, with the number's sign. -/
def part (z : Int) (ds : List Nat) (i : Nat) : Int := if z < 0 then - (vd ds i : Int) else vd ds i
end Go.Proofs.YtiamggjebaabkaaGreatDoor

namespace Go.Proofs.YtiamggjebaabkaaGreatDoor
open Go.RowKit
set_option linter.unusedVariables false

theorem BV.up {w : World} {v : Value} {z : Int} {k l : Nat} (h : BV w v z k) (hl : k ≤ l) : BV w v z l := by
  obtain ⟨A, ds, c, h1, h2, h3, h4, h5, h6⟩ := h
  exact ⟨A, ds, c, h1, h2, h3, h4, by omega, h6⟩

/-- What the loop of Big keeps: the Big in block q; block p, the result's, as it was. -/
def SB (l : List UInt8) (p q : Nat) (w0 : World) (i : Nat) (wr : World) : Prop :=
  ∃ (s : Bool) (A : Option Addr) (n c : Nat), wr.heap[q]? = some (.cells #[.bool s, .slice A n c] 214 (0, 0)) ∧
    BV wr (.agg #[.bool s, .slice A n c]) (dv (l.take i) : Nat) (4 + 6 * i) ∧ wr.heap[p]? = some (.cells #[.bool false, .slice none 0 0] 214 (0, 0)) ∧ Below w0.heap.size w0 wr

end Go.Proofs.YtiamggjebaabkaaGreatDoor

namespace Go.Proofs.YtiamggjebaabkaaGreatDoor
open Go.RowKit Go.WideShapes Go.ChangeShapes
set_option linter.unusedVariables false
set_option linter.unusedSimpArgs false

/-- A word of a row of words. -/
theorem Rs.at {w : World} {A : Option Addr} {ls : List (List UInt8)} (h : Rs w A ls) {i : Nat} {u : List UInt8} (hi : ls[i]? = some u) : ∃ b off, A = some ⟨b, off, none⟩ ∧ b < w.heap.size ∧ w.cell? ⟨b, off + i, none⟩ = some (.string ⟨u.toArray⟩) := by
  rcases h with h | ⟨b, off, h1, h2, h3⟩
  · rw [h] at hi; simp at hi
  · exact ⟨b, off, h1, h2, h3 i u hi⟩

end Go.Proofs.YtiamggjebaabkaaGreatDoor
