/- Merged: FigC, RefA, BigM, BigA, BigB, BigD, BigH, RefC, ListD, ListE. -/
import Derived.Test.YtiamggjebaabkaaGreatDoorGListBack4
import Derived.Lib.AppendIntMem
import Derived.Outline
import Derived.LoopTactic
import Derived.Laws.IdiomStrings
import Derived.RowKit
import Derived.Test.YtiamggjebaabkaaGreatDoorGListBack1
import Derived.Deep.Draws
import Derived.Laws.OwnMore
import Derived.Maps.AppendAt
import Derived.BigQuiet
import Derived.Deep.QuietTactic
import Derived.OwnWalk
import Derived.Deep.RegionWith
import Derived.Deep.DeepCutAuto
import Derived.Deep.CutRange
import Derived.Deep.RegionHeld3
import Derived.Deep.CutBlock
import Derived.Deep.LoopGhost
import Derived.Test.YtiamggjebaabkaaGreatDoorGListBack12
namespace Go.Proofs.YtiamggjebaabkaaGreatDoor
open Go.RowKit
set_option linter.unusedVariables false

/-- The library's table of powers of ten. -/
def Tab (w : World) : Prop := Lib.TabIs Tryz.prog w "internal/strconv.uint64pow10" .u64 Lib.pow10Tab
theorem gtab : Tryz.prog.globalNamed "internal/strconv.uint64pow10" = some 6 := by kernel_rfl
theorem Tab.below {w w' : World} (h : Tab w) (hb : Below w.heap.size w w') : Tab w' := Joins.tab_stays gtab h hb (Nat.le_refl _)

def ptE (width : Int) : Int := if width < 0 ∨ 20 < width then 1 else 0
def ptL (n width : Int) : List UInt8 :=
  if width < 0 ∨ 20 < width then [] else if n < 0 then 45 :: pad width.toNat (Lib.decDigits n.natAbs) else pad width.toNat (Lib.decDigits n.natAbs)

theorem bs_append (a b : List UInt8) : (⟨a.toArray⟩ : ByteArray) ++ ⟨b.toArray⟩ = ⟨(a ++ b).toArray⟩ := by
  apply ByteArray.ext; simp
theorem dec_head (u : Nat) : Lib.hasPrefix (Lib.decDigits u) [45] = false := by
  have h := dec_isd u
  cases hd : Lib.decDigits u with
  | nil => rfl
  | cons b r =>
    rw [hd] at h
    have := isd_bd (h b (by simp))
    simp only [Lib.hasPrefix, List.isPrefixOf, Bool.and_true]
    apply beq_false_of_ne
    rintro rfl
    revert this; decide
theorem cut_itoa (n : Int) : Lib.trimPrefix (Lib.itoa n) [45] = Lib.decDigits n.natAbs ∧ Lib.hasPrefix (Lib.itoa n) [45] = decide (n < 0) := by
  by_cases h : n < 0
  · have e : Lib.itoa n = 45 :: Lib.decDigits n.natAbs := by unfold Lib.itoa; rw [if_pos h]
    have hp : Lib.hasPrefix (Lib.itoa n) [45] = true := by rw [e]; simp [Lib.hasPrefix, List.isPrefixOf]
    refine ⟨?_, by rw [hp]; simp [h]⟩
    unfold Lib.trimPrefix; rw [hp, e]; rfl
  · have e : Lib.itoa n = Lib.decDigits n.natAbs := by unfold Lib.itoa; rw [if_neg h]; congr 1; omega
    have hp : Lib.hasPrefix (Lib.itoa n) [45] = false := by rw [e]; exact dec_head _
    refine ⟨?_, by rw [hp]; simp [h]⟩
    unfold Lib.trimPrefix; rw [hp, e]; rfl
theorem repeat_one (c : UInt8) : ∀ k, Lib.repeatL [c] k = List.replicate k c
  | 0 => rfl
  | k + 1 => by rw [Lib.repeatL, repeat_one c k, List.replicate_succ]; rfl
theorem format_any (n : Int) (w : World) (hn : fits n) (ht : Tab w) :
    Calls Tryz.prog 89 #[.int .i64 n, .int .i64 10] w fun e w' => e = .returned (.string ⟨(Lib.itoa n).toArray⟩) ∧ Below w.heap.size w w' :=
  (Tryz.strconv_FormatInt_10 n hn.1 hn.2 w ht).mono fun e w' ⟨he, k, os, hw⟩ => ⟨he, hw ▸ Lib.below_grow _ _ (Nat.le_refl _) _ _⟩
theorem zeros_any (k : Nat) (w : World) (hk : k ≤ 100) :
    Calls Tryz.prog 90 #[.string ⟨#[48]⟩, .int .i64 k] w fun e w' => e = .returned (.string ⟨(List.replicate k 48).toArray⟩) ∧ Below w.heap.size w w' := by
  have h := Tryz.strings_Repeat ⟨#[48]⟩ k w (by omega) (by show 1 * k ≤ _; omega)
  rw [show ((⟨#[48]⟩ : ByteArray).data.toList) = [48] from rfl, repeat_one] at h
  exact h

set_option maxHeartbeats 800000 in
theorem put_any (n width : Int) (w : World) (hn : fits n) (hw : fits width) (ht : Tab w) :
    Calls Tryz.prog 63 #[.int .i64 n, .int .i64 width] w fun e w' =>
      e = .returned (.tuple #[.string ⟨(ptL n width).toArray⟩, ev (ptE width)]) ∧ Below w.heap.size w w' := by
  by_cases hr : width < 0 ∨ 20 < width
  · have e1 : ptL n width = [] := by unfold ptL; rw [if_pos hr]
    have e2 : ptE width = 1 := by unfold ptE; rw [if_pos hr]
    rw [e1, e2]; clear e1 e2
    have hr' : width < 0 ∨ (¬ width < 0 ∧ 20 < width) := by omega
    clear hr
    rcases hr' with h1 | ⟨h1, h2⟩
    all_goals
      go_enter Tryz.func63, Tryz.ntmps63
      go_wp2
      go_ret2
      exact ⟨rfl, Below.refl _ _⟩
  · have e2 : ptE width = 0 := by unfold ptE; rw [if_neg hr]
    rw [e2]; clear e2
    have h1 : 0 ≤ width := by omega
    have h2 : width ≤ 20 := by omega
    obtain ⟨W, rfl⟩ := Int.eq_ofNat_of_zero_le h1
    have e1 : ptL n W = if n < 0 then 45 :: pad W (Lib.decDigits n.natAbs) else pad W (Lib.decDigits n.natAbs) := by
      unfold ptL; rw [if_neg hr]; simp
    clear hr
    obtain ⟨ci, hi⟩ := cut_itoa n
    have hc := fun w => cutp_any ⟨(Lib.itoa n).toArray⟩ 45 w
    simp only [ci, hi] at hc
    have hf := format_any n w hn ht
    generalize Lib.itoa n = I at *
    have hu : n.natAbs < 10 ^ 19 := by
      unfold fits at hn
      have h : 9223372036854775808 < 10 ^ 19 := by decide
      omega
    have hl := dec_len (k := 19) (u := n.natAbs) (by decide) hu
    clear hu
    generalize hD : Lib.decDigits n.natAbs = D at *
    obtain ⟨k, hk⟩ : ∃ k : Nat, k = W - D.length := ⟨_, rfl⟩
    have hz := fun w => zeros_any k w (by omega)
    have hmax : max (0 : Int) ((W : Int) - (D.length : Int)) = (k : Int) := by omega
    have hsz : (⟨D.toArray⟩ : ByteArray).size = D.length := Lib.size_mk D
    have e3 : pad W D = List.replicate k 48 ++ D := by unfold pad; rw [hk]
    rw [e3] at e1
    have HC := Lib.hid hc; have HF := Lib.hid hf; have HZ := Lib.hid hz; have HE := Lib.hid e1
    clear ci hi hc hf hz e1 e3 hk hD ht hn hw
    by_cases hneg : n < 0
    · have e : ptL n W = 45 :: (List.replicate k 48 ++ D) := by rw [HE.out, if_pos hneg]
      rw [e]
      have hb : decide (n < 0) = true := by simpa using hneg
      rw [hb] at HC
      clear HE e hb
      go_enter Tryz.func63, Tryz.ntmps63
      go_wp2_with (first
        | (go_at_call 89; refine HF.out.mono ?_; rintro e w1 ⟨rfl, hb1⟩; have HB1 := Lib.hid hb1; clear hb1)
        | (go_at_call 88; refine (HC.out _).mono ?_; rintro e w' ⟨rfl, rfl⟩)
        | (go_at_call 90; refine (HZ.out _).mono ?_; rintro e w2 ⟨rfl, hb2⟩; have HB2 := Lib.hid hb2; clear hb2))
      go_ret2
      refine ⟨ret2_eq ?_ rfl, HB1.out.trans (HB2.out.mono HB1.out.size)⟩
      show Value.string (⟨[45].toArray⟩ ++ ⟨(List.replicate k 48).toArray⟩ ++ ⟨D.toArray⟩) = _
      rw [bs_append, bs_append]; rfl
    · have e : ptL n W = List.replicate k 48 ++ D := by rw [HE.out, if_neg hneg]
      rw [e]
      have hb : decide (n < 0) = false := by simpa using hneg
      rw [hb] at HC
      clear HE e hb
      go_enter Tryz.func63, Tryz.ntmps63
      go_wp2_with (first
        | (go_at_call 89; refine HF.out.mono ?_; rintro e w1 ⟨rfl, hb1⟩; have HB1 := Lib.hid hb1; clear hb1)
        | (go_at_call 88; refine (HC.out _).mono ?_; rintro e w' ⟨rfl, rfl⟩)
        | (go_at_call 90; refine (HZ.out _).mono ?_; rintro e w2 ⟨rfl, hb2⟩; have HB2 := Lib.hid hb2; clear hb2))
      go_ret2
      refine ⟨ret2_eq ?_ rfl, HB1.out.trans (HB2.out.mono HB1.out.size)⟩
      show Value.string (⟨(List.replicate k 48).toArray⟩ ++ ⟨D.toArray⟩) = _
      rw [bs_append]

/-! ### PutFraction, Short -/
/-- Isn't it a fraction? -/
def nf (nano : Int) : Prop := nano < 0 ∨ 999999999 < nano
instance (n : Int) : Decidable (nf n) := by unfold nf; infer_instance
end Go.Proofs.YtiamggjebaabkaaGreatDoor

namespace Go.Proofs.YtiamggjebaabkaaGreatDoor
open Go.RowKit
set_option linter.unusedVariables false

/-! ### Raw -/
/-! ### Put -/
/-- The figures of 2^63. -/
def lowest : List UInt8 := [57, 50, 50, 51, 51, 55, 50, 48, 51, 54, 56, 53, 52, 55, 55, 53, 56, 48, 56]
end Go.Proofs.YtiamggjebaabkaaGreatDoor

namespace Go.Proofs.YtiamggjebaabkaaGreatDoor

/-- The number of a row of digits, the lowest first. -/
def nv : List Nat → Nat
  | [] => 0
  | d :: r => d + 65536 * nv r
/-- The digit at i; 0 beyond the last one. -/
def dg (ds : List Nat) (i : Nat) : Nat := ds.getD i 0
/-- The number of the digits from i on. -/
def vd (ds : List Nat) (i : Nat) : Nat := nv (ds.drop i)
/-- All digits are less than the base. -/
def low (ds : List Nat) : Prop := ∀ d ∈ ds, d < 65536

theorem nv_snoc (ds : List Nat) (d : Nat) : nv (ds ++ [d]) = nv ds + 65536 ^ ds.length * d := by
  induction ds with
  | nil => simp [nv]
  | cons x r ih =>
    simp only [List.cons_append, nv, ih, List.length_cons, Nat.pow_succ]
    rw [Nat.mul_add, Nat.add_assoc]
    congr 2
    rw [Nat.mul_comm (65536 ^ r.length) 65536, Nat.mul_assoc]
theorem low_snoc {ds : List Nat} {d : Nat} (h : low ds) (hd : d < 65536) : low (ds ++ [d]) := by
  intro x hx
  rcases List.mem_append.mp hx with hx | hx
  · exact h x hx
  · rw [List.mem_singleton.mp hx]; exact hd
theorem low_take {ds : List Nat} (h : low ds) (i : Nat) : low (ds.take i) := fun d hd => h d (List.mem_of_mem_take hd)

theorem dg_take {ds : List Nat} {n j : Nat} (h : j < n) : dg (ds.take n) j = dg ds j := by
  unfold dg
  simp only [List.getD_eq_getElem?_getD]
  rw [List.getElem?_take_of_lt h]
end Go.Proofs.YtiamggjebaabkaaGreatDoor

namespace Go.Proofs.YtiamggjebaabkaaGreatDoor
open Go.RowKit

/-- The slice at A reads as the digits ds. -/
def Rd (w : World) (A : Option Addr) (ds : List Nat) : Prop :=
  low ds ∧ (ds = [] ∨ ∃ b : Nat, A = some ⟨b, 0, none⟩ ∧ b < w.heap.size ∧ ∀ j, j < ds.length → w.cell? ⟨b, j, none⟩ = some (.int .u64 (dg ds j)))

theorem Rd.below {w w' : World} {A : Option Addr} {ds : List Nat} (h : Rd w A ds) (hb : Below w.heap.size w w') : Rd w' A ds := by
  refine ⟨h.1, h.2.imp id ?_⟩
  rintro ⟨b, hA, hlt, hc⟩
  exact ⟨b, hA, Nat.lt_of_lt_of_le hlt hb.size, fun j hj => (hb.cell (p := ⟨b, j, none⟩) hlt).trans (hc j hj)⟩
theorem Rd.drewN {w : World} {A : Option Addr} {ds : List Nat} (h : Rd w A ds) (n : Nat) : Rd (w.drewN n) A ds := h
theorem Rd.cell {w : World} {A : Option Addr} {ds : List Nat} (h : Rd w A ds) {i : Nat} (hi : i < ds.length) : ∃ b, A = some ⟨b, 0, none⟩ ∧ b < w.heap.size ∧ w.cell? ⟨b, i, none⟩ = some (.int .u64 (dg ds i)) := by
  rcases h.2 with rfl | ⟨b, hA, hlt, hc⟩
  · simp at hi
  · exact ⟨b, hA, hlt, hc i hi⟩
theorem Rd.take_ {w : World} {A : Option Addr} {ds : List Nat} (h : Rd w A ds) (n : Nat) (hn : n ≤ ds.length) : Rd w A (ds.take n) := by
  refine ⟨low_take h.1 n, h.2.imp (fun e => by rw [e]; simp) ?_⟩
  rintro ⟨b, hA, hlt, hc⟩
  refine ⟨b, hA, hlt, fun j hj => ?_⟩
  rw [List.length_take] at hj
  rw [dg_take (by omega)]
  exact hc j (by omega)
/-- Is a row without a 0 at its end? -/
def trim (ds : List Nat) : Prop := 0 < ds.length → 0 < nv ds

end Go.Proofs.YtiamggjebaabkaaGreatDoor

namespace Go.Proofs.YtiamggjebaabkaaGreatDoor
open Go.RowKit

/-- The cells of a row of digits. -/
def cl (ds : List Nat) : List Value := ds.map fun d : Nat => Value.int .u64 (d : Int)
/-- The slice v is the call's own, and holds the digits ds. -/
def Own (w : World) (base : Nat) (v : Value) (ds : List Nat) : Prop := w.ownsRow base 105 1 v ds.length (cl ds)
theorem Own.below {w w' : World} {base B : Nat} {v : Value} {ds : List Nat} (h : Own w base v ds) (hb : Below B w w') (hB : w.heap.size ≤ B) : Own w' base v ds := by
  refine ⟨h.1, h.2.imp id ?_⟩
  rintro ⟨g, cap, cur, hv, hbg, hh, r⟩
  refine ⟨g, cap, cur, hv, hbg, ?_, r⟩
  rw [hb.block g (Nat.lt_of_lt_of_le (World.ownsRow.lt h g (by rw [hv]; rfl)).2 hB)]
  exact hh
theorem Own.drewN {w : World} {base : Nat} {v : Value} {ds : List Nat} (h : Own w base v ds) (n : Nat) : Own (w.drewN n) base v ds := h
end Go.Proofs.YtiamggjebaabkaaGreatDoor

namespace Go.Proofs.YtiamggjebaabkaaGreatDoor
open Go.RowKit

/-- The value v is a Big that is the number z, of at most k digits. -/
def BV (w : World) (v : Value) (z : Int) (k : Nat) : Prop :=
  ∃ (A : Option Addr) (ds : List Nat) (c : Nat), v = .agg #[.bool (decide (z < 0)), .slice A ds.length c] ∧ Rd w A ds ∧ ds.length ≤ c ∧ c ≤ maxLen ∧ ds.length ≤ k ∧ nv ds = z.natAbs ∧ trim ds
theorem BV.below {w w' : World} {v : Value} {z : Int} {k : Nat} (h : BV w v z k) (hb : Below w.heap.size w w') : BV w' v z k := by
  obtain ⟨A, ds, c, h1, h2, h3⟩ := h
  exact ⟨A, ds, c, h1, h2.below hb, h3⟩

/-- What the loop of Of keeps. -/
def OfRel (a x : Int) (ds : List Nat) : Prop :=
  low ds ∧ nv ds + 65536 ^ ds.length * x.natAbs = a.natAbs ∧ fits x ∧ ds.length ≤ 4 ∧ (0 < ds.length → a ≠ 0) ∧ (ds.length = 0 → x = a)
theorem OfRel.step {a x : Int} {ds : List Nat} (h : OfRel a x ds) (ha : fits a) (hx : x ≠ 0) : OfRel a (x.tdiv 65536) (ds ++ [x.natAbs % 65536]) ∧ ds.length < 4 := by
  obtain ⟨h1, h2, h3, h4, h5, h6⟩ := h
  have ha' : a.natAbs ≤ 9223372036854775808 := by unfold fits at ha; omega
  have hlt : ds.length < 4 := by
    rcases Nat.lt_or_ge ds.length 4 with h | h
    · exact h
    · exfalso
      have e : ds.length = 4 := by omega
      rw [e] at h2
      omega
  refine ⟨⟨low_snoc h1 (Nat.mod_lt _ (by omega)), ?_, ?_, by rw [List.length_append]; simp; omega, fun _ => ?_, fun h => by simp at h⟩, hlt⟩
  · rw [nv_snoc, List.length_append, List.length_singleton, Nat.pow_succ, Int.natAbs_tdiv, ← h2, Nat.add_assoc, Nat.mul_assoc, ← Nat.mul_add]
    congr 2
    exact Nat.mod_add_div _ _
  · refine tdiv_fit h3 (by decide) (by decide)
  · rcases Nat.eq_zero_or_pos ds.length with h0 | h0
    · rw [← h6 h0]; exact hx
    · exact h5 h0
end Go.Proofs.YtiamggjebaabkaaGreatDoor

namespace Go.Proofs.YtiamggjebaabkaaGreatDoor
open Go.RowKit

/-- The part of the number that the digits from i on are, with the number's sign. -/
def part (z : Int) (ds : List Nat) (i : Nat) : Int := if z < 0 then - (vd ds i : Int) else vd ds i
end Go.Proofs.YtiamggjebaabkaaGreatDoor

namespace Go.Proofs.YtiamggjebaabkaaGreatDoor
open Go.RowKit
set_option linter.unusedVariables false

theorem BV.up {w : World} {v : Value} {z : Int} {k l : Nat} (h : BV w v z k) (hl : k ≤ l) : BV w v z l := by
  obtain ⟨A, ds, c, h1, h2, h3, h4, h5, h6⟩ := h
  exact ⟨A, ds, c, h1, h2, h3, h4, by omega, h6⟩

end Go.Proofs.YtiamggjebaabkaaGreatDoor

namespace Go.Proofs.YtiamggjebaabkaaGreatDoor
open Go.RowKit Go.WideShapes Go.ChangeShapes
set_option linter.unusedVariables false
set_option linter.unusedSimpArgs false

/-- A word of a row of words. -/
theorem Rs.at {w : World} {A : Option Addr} {ls : List (List UInt8)} (h : Rs w A ls) {i : Nat} {u : List UInt8} (hi : ls[i]? = some u) : ∃ b off, A = some ⟨b, off, none⟩ ∧ b < w.heap.size ∧ w.cell? ⟨b, off + i, none⟩ = some (.string ⟨u.toArray⟩) := by
  rcases h with h | ⟨b, off, h1, h2, h3⟩
  · rw [h] at hi; simp at hi
  · exact ⟨b, off, h1, h2, h3 i u hi⟩

end Go.Proofs.YtiamggjebaabkaaGreatDoor

namespace Go.Proofs.YtiamggjebaabkaaGreatDoor
open Go.RowKit Go.WideShapes Go.ChangeShapes
set_option linter.unusedVariables false
set_option linter.unusedSimpArgs false

/-- A Read's block. -/
def B13 (w : World) (g : Nat) (cs : Array Value) : Prop := w.heap[g]? = some (.cells cs 38 (0, 0))
theorem B13.keep {w w' : World} {g : Nat} {cs : Array Value} (h : B13 w g cs) (hb : Below w.heap.size w w') : B13 w' g cs := (hb.block g (bk_lt h)).trans h
theorem B13.all {w : World} {g : Nat} {b0 b1 b2 b3 b4 b5 b6 b7 b8 b9 b10 b11 b12 : Value} (h : B13 w g #[b0, b1, b2, b3, b4, b5, b6, b7, b8, b9, b10, b11, b12]) :
    w.cell? ⟨g, 0, none⟩ = some b0 ∧ w.cell? ⟨g, 1, none⟩ = some b1 ∧ w.cell? ⟨g, 2, none⟩ = some b2 ∧ w.cell? ⟨g, 3, none⟩ = some b3 ∧ w.cell? ⟨g, 4, none⟩ = some b4 ∧ w.cell? ⟨g, 5, none⟩ = some b5 ∧ w.cell? ⟨g, 6, none⟩ = some b6 ∧ w.cell? ⟨g, 7, none⟩ = some b7 ∧ w.cell? ⟨g, 8, none⟩ = some b8 ∧ w.cell? ⟨g, 9, none⟩ = some b9 ∧ w.cell? ⟨g, 10, none⟩ = some b10 ∧ w.cell? ⟨g, 11, none⟩ = some b11 ∧ w.cell? ⟨g, 12, none⟩ = some b12 :=
  ⟨bk_cell h 0, bk_cell h 1, bk_cell h 2, bk_cell h 3, bk_cell h 4, bk_cell h 5, bk_cell h 6, bk_cell h 7, bk_cell h 8, bk_cell h 9, bk_cell h 10, bk_cell h 11, bk_cell h 12⟩
theorem B13.frees {w : World} {g : Nat} {cs : Array Value} (h : B13 w g cs) : w.frozen? ⟨g, 0, none⟩ = false ∧ w.frozen? ⟨g, 1, none⟩ = false ∧ w.frozen? ⟨g, 2, none⟩ = false ∧ w.frozen? ⟨g, 3, none⟩ = false ∧ w.frozen? ⟨g, 4, none⟩ = false ∧ w.frozen? ⟨g, 5, none⟩ = false ∧ w.frozen? ⟨g, 6, none⟩ = false ∧ w.frozen? ⟨g, 7, none⟩ = false ∧ w.frozen? ⟨g, 8, none⟩ = false ∧ w.frozen? ⟨g, 9, none⟩ = false ∧ w.frozen? ⟨g, 10, none⟩ = false ∧ w.frozen? ⟨g, 11, none⟩ = false ∧ w.frozen? ⟨g, 12, none⟩ = false :=
  ⟨bk_free h 0, bk_free h 1, bk_free h 2, bk_free h 3, bk_free h 4, bk_free h 5, bk_free h 6, bk_free h 7, bk_free h 8, bk_free h 9, bk_free h 10, bk_free h 11, bk_free h 12⟩
abbrev put13 (W : World) (q : Nat) (a0 a1 a2 a3 a4 a5 a6 a7 a8 a9 a10 a11 a12 : Value) : World := (((((((((((((W.setCell ⟨q, 0, none⟩ a0).setCell ⟨q, 1, none⟩ a1).setCell ⟨q, 2, none⟩ a2).setCell ⟨q, 3, none⟩ a3).setCell ⟨q, 4, none⟩ a4).setCell ⟨q, 5, none⟩ a5).setCell ⟨q, 6, none⟩ a6).setCell ⟨q, 7, none⟩ a7).setCell ⟨q, 8, none⟩ a8).setCell ⟨q, 9, none⟩ a9).setCell ⟨q, 10, none⟩ a10).setCell ⟨q, 11, none⟩ a11).setCell ⟨q, 12, none⟩ a12)
theorem B13.put {W : World} {q : Nat} {b0 b1 b2 b3 b4 b5 b6 b7 b8 b9 b10 b11 b12 : Value} (h : B13 W q #[b0, b1, b2, b3, b4, b5, b6, b7, b8, b9, b10, b11, b12]) (a0 a1 a2 a3 a4 a5 a6 a7 a8 a9 a10 a11 a12 : Value) : B13 (put13 W q a0 a1 a2 a3 a4 a5 a6 a7 a8 a9 a10 a11 a12) q #[a0, a1, a2, a3, a4, a5, a6, a7, a8, a9, a10, a11, a12] := by
  have h0 := h
  have h1 : B13 (W.setCell ⟨q, 0, none⟩ a0) q #[a0, b1, b2, b3, b4, b5, b6, b7, b8, b9, b10, b11, b12] := bk_set h0 0 a0
  have h2 : B13 ((W.setCell ⟨q, 0, none⟩ a0).setCell ⟨q, 1, none⟩ a1) q #[a0, a1, b2, b3, b4, b5, b6, b7, b8, b9, b10, b11, b12] := bk_set h1 1 a1
  have h3 : B13 (((W.setCell ⟨q, 0, none⟩ a0).setCell ⟨q, 1, none⟩ a1).setCell ⟨q, 2, none⟩ a2) q #[a0, a1, a2, b3, b4, b5, b6, b7, b8, b9, b10, b11, b12] := bk_set h2 2 a2
  have h4 : B13 ((((W.setCell ⟨q, 0, none⟩ a0).setCell ⟨q, 1, none⟩ a1).setCell ⟨q, 2, none⟩ a2).setCell ⟨q, 3, none⟩ a3) q #[a0, a1, a2, a3, b4, b5, b6, b7, b8, b9, b10, b11, b12] := bk_set h3 3 a3
  have h5 : B13 (((((W.setCell ⟨q, 0, none⟩ a0).setCell ⟨q, 1, none⟩ a1).setCell ⟨q, 2, none⟩ a2).setCell ⟨q, 3, none⟩ a3).setCell ⟨q, 4, none⟩ a4) q #[a0, a1, a2, a3, a4, b5, b6, b7, b8, b9, b10, b11, b12] := bk_set h4 4 a4
  have h6 : B13 ((((((W.setCell ⟨q, 0, none⟩ a0).setCell ⟨q, 1, none⟩ a1).setCell ⟨q, 2, none⟩ a2).setCell ⟨q, 3, none⟩ a3).setCell ⟨q, 4, none⟩ a4).setCell ⟨q, 5, none⟩ a5) q #[a0, a1, a2, a3, a4, a5, b6, b7, b8, b9, b10, b11, b12] := bk_set h5 5 a5
  have h7 : B13 (((((((W.setCell ⟨q, 0, none⟩ a0).setCell ⟨q, 1, none⟩ a1).setCell ⟨q, 2, none⟩ a2).setCell ⟨q, 3, none⟩ a3).setCell ⟨q, 4, none⟩ a4).setCell ⟨q, 5, none⟩ a5).setCell ⟨q, 6, none⟩ a6) q #[a0, a1, a2, a3, a4, a5, a6, b7, b8, b9, b10, b11, b12] := bk_set h6 6 a6
  have h8 : B13 ((((((((W.setCell ⟨q, 0, none⟩ a0).setCell ⟨q, 1, none⟩ a1).setCell ⟨q, 2, none⟩ a2).setCell ⟨q, 3, none⟩ a3).setCell ⟨q, 4, none⟩ a4).setCell ⟨q, 5, none⟩ a5).setCell ⟨q, 6, none⟩ a6).setCell ⟨q, 7, none⟩ a7) q #[a0, a1, a2, a3, a4, a5, a6, a7, b8, b9, b10, b11, b12] := bk_set h7 7 a7
  have h9 : B13 (((((((((W.setCell ⟨q, 0, none⟩ a0).setCell ⟨q, 1, none⟩ a1).setCell ⟨q, 2, none⟩ a2).setCell ⟨q, 3, none⟩ a3).setCell ⟨q, 4, none⟩ a4).setCell ⟨q, 5, none⟩ a5).setCell ⟨q, 6, none⟩ a6).setCell ⟨q, 7, none⟩ a7).setCell ⟨q, 8, none⟩ a8) q #[a0, a1, a2, a3, a4, a5, a6, a7, a8, b9, b10, b11, b12] := bk_set h8 8 a8
  have h10 : B13 ((((((((((W.setCell ⟨q, 0, none⟩ a0).setCell ⟨q, 1, none⟩ a1).setCell ⟨q, 2, none⟩ a2).setCell ⟨q, 3, none⟩ a3).setCell ⟨q, 4, none⟩ a4).setCell ⟨q, 5, none⟩ a5).setCell ⟨q, 6, none⟩ a6).setCell ⟨q, 7, none⟩ a7).setCell ⟨q, 8, none⟩ a8).setCell ⟨q, 9, none⟩ a9) q #[a0, a1, a2, a3, a4, a5, a6, a7, a8, a9, b10, b11, b12] := bk_set h9 9 a9
  have h11 : B13 (((((((((((W.setCell ⟨q, 0, none⟩ a0).setCell ⟨q, 1, none⟩ a1).setCell ⟨q, 2, none⟩ a2).setCell ⟨q, 3, none⟩ a3).setCell ⟨q, 4, none⟩ a4).setCell ⟨q, 5, none⟩ a5).setCell ⟨q, 6, none⟩ a6).setCell ⟨q, 7, none⟩ a7).setCell ⟨q, 8, none⟩ a8).setCell ⟨q, 9, none⟩ a9).setCell ⟨q, 10, none⟩ a10) q #[a0, a1, a2, a3, a4, a5, a6, a7, a8, a9, a10, b11, b12] := bk_set h10 10 a10
  have h12 : B13 ((((((((((((W.setCell ⟨q, 0, none⟩ a0).setCell ⟨q, 1, none⟩ a1).setCell ⟨q, 2, none⟩ a2).setCell ⟨q, 3, none⟩ a3).setCell ⟨q, 4, none⟩ a4).setCell ⟨q, 5, none⟩ a5).setCell ⟨q, 6, none⟩ a6).setCell ⟨q, 7, none⟩ a7).setCell ⟨q, 8, none⟩ a8).setCell ⟨q, 9, none⟩ a9).setCell ⟨q, 10, none⟩ a10).setCell ⟨q, 11, none⟩ a11) q #[a0, a1, a2, a3, a4, a5, a6, a7, a8, a9, a10, a11, b12] := bk_set h11 11 a11
  have h13 : B13 (((((((((((((W.setCell ⟨q, 0, none⟩ a0).setCell ⟨q, 1, none⟩ a1).setCell ⟨q, 2, none⟩ a2).setCell ⟨q, 3, none⟩ a3).setCell ⟨q, 4, none⟩ a4).setCell ⟨q, 5, none⟩ a5).setCell ⟨q, 6, none⟩ a6).setCell ⟨q, 7, none⟩ a7).setCell ⟨q, 8, none⟩ a8).setCell ⟨q, 9, none⟩ a9).setCell ⟨q, 10, none⟩ a10).setCell ⟨q, 11, none⟩ a11).setCell ⟨q, 12, none⟩ a12) q #[a0, a1, a2, a3, a4, a5, a6, a7, a8, a9, a10, a11, a12] := bk_set h12 12 a12
  exact h13
end Go.Proofs.YtiamggjebaabkaaGreatDoor
