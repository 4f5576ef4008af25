/- Merged: Pairs, DayM, DayA, DayB. -/
import Derived.Test.YtiamggjebaabkaaGreatDoorGListPuts1
import Derived.Lib.LaidTab
import Derived.Lib.SmallJoins
import Derived.ChangeSame
import Derived.OpenShut
namespace Go.Proofs.YtiamggjebaabkaaGreatDoor
open Go.RowKit
set_option linter.unusedVariables false

/-- The table as a row of the statement lists it. -/
def pairData {H : Type} (rows : List (List UInt8 × Int)) : DataW H := .agg (rows.map fun r => .agg [.lit (.string r.1), .lit (.int .i64 r.2)])
/-- The variable's cells: for each row its string, then its integer. -/
def PairsAre (P : Program) (w : World) (name : String) (rows : List (List UInt8 × Int)) : Prop :=
  ∃ cs, w.var? P name = some cs ∧ ∀ (i : Nat) (r : List UInt8 × Int), rows[i]? = some r → cs[2 * i]? = some (.string ⟨r.1.toArray⟩) ∧ cs[2 * i + 1]? = some (.int .i64 r.2)

theorem pairs_of_head {P : Program} {W : World} {name : String} {rows : List (List UInt8 × Int)} {rest : List (String × DataW Unit)} {g n : Nat} {t e : TypeId} {f0 f1 : Field}
    (hg : P.globalNamed name = some g) (hty : (P.globals[g]?).map (·.type) = some t) (ht : P.underlying t = some (.array n e)) (he : P.underlying e = some (.struct #[f0, f1]))
    (h0 : P.underlying f0.type = some .string) (h1 : P.underlying f1.type = some (.int .i64)) (o0 : f0.offset = 0) (o1 : f1.offset = 1) (hce : P.cellsOf e = 2) (c0 : P.cellsOf f0.type = 1) (c1 : P.cellsOf f1.type = 1)
    (h : laidMet P ((name, pairData rows) :: rest) W) : PairsAre P W name rows := by
  obtain ⟨ps, ⟨g', t', cs, fuel, p, q, hg', ht', hvar, hd, _, _⟩, _⟩ := h
  obtain rfl := Option.some.inj (hg.symm.trans hg')
  obtain rfl := Option.some.inj (hty.symm.trans ht')
  refine ⟨cs, hvar, fun i r hr => ?_⟩
  obtain ⟨xs, m, rfl, hx, hl, hn, hi⟩ := DataW.trod_array ht hd
  have hxs : xs.map (·.1) = rows.map fun r => (DataW.agg [.lit (.string r.1), .lit (.int .i64 r.2)] : DataW Unit) := by
    have := congrArg Prod.fst hx
    simpa [pairData] using this.symm
  have hlen : xs.length = rows.length := by simpa using congrArg List.length hxs
  have hir : i < rows.length := by
    rcases Nat.lt_or_ge i rows.length with h | h
    · exact h
    · rw [List.getElem?_eq_none h] at hr; cases hr
  have hy : (xs.map (·.1))[i]? = some (DataW.agg [.lit (.string r.1), .lit (.int .i64 r.2)]) := by rw [hxs]; simp [hr]
  rw [List.getElem?_map, Option.map_eq_some_iff] at hy
  obtain ⟨y, hy, hy1⟩ := hy
  have hd := hi i (by omega)
  rw [hy, hce] at hd
  obtain ⟨y0, y1, k, rfl, hl2, hd0, hd1⟩ := Go.ChangeShapes.trod_struct2 he hd
  rw [o0, c0] at hd0
  rw [o1, c1] at hd1
  obtain ⟨s, es, rfl, _⟩ := DataW.trod_string h0 hd0
  obtain ⟨z, ez, rfl, _⟩ := DataW.trod_int h1 hd1
  simp only [DataW.agg.injEq, List.cons.injEq, DataW.lit.injEq, Lit.string.injEq, Lit.int.injEq, and_true, true_and] at hy1
  obtain ⟨e0, e1⟩ := hy1
  have a0 := congrArg (·[0]?) es
  have a1 := congrArg (·[0]?) ez
  simp [List.getElem?_drop] at a0 a1
  rw [Nat.mul_comm] at a0 a1
  refine ⟨?_, ?_⟩
  · rw [a0]
    congr 2
    rw [← e0]
  · rw [a1, e1]

theorem PairsAre.cells {P : Program} {w : World} {name : String} {rows : List (List UInt8 × Int)} {g : Nat} (h : PairsAre P w name rows) (hg : P.globalNamed name = some g) {i : Nat} {r : List UInt8 × Int} (hr : rows[i]? = some r) :
    w.cell? ⟨g, 2 * i, none⟩ = some (.string ⟨r.1.toArray⟩) ∧ w.cell? ⟨g, 2 * i + 1, none⟩ = some (.int .i64 r.2) := by
  obtain ⟨cs, hv, hc⟩ := h
  obtain ⟨a, b⟩ := hc i r hr
  exact ⟨(World.var?_cell hg hv _).trans a, (World.var?_cell hg hv _).trans b⟩
theorem PairsAre.below {P : Program} {w w' : World} {name : String} {rows : List (List UInt8 × Int)} {g : Nat} (h : PairsAre P w name rows) (hg : P.globalNamed name = some g) (hb : Below w.heap.size w w') : PairsAre P w' name rows := by
  obtain ⟨cs, hv, hc⟩ := h
  exact ⟨cs, Joins.var_stays hg hv hb (Nat.le_refl _), hc⟩
theorem PairsAre.lt {P : Program} {w : World} {name : String} {rows : List (List UInt8 × Int)} {g : Nat} (h : PairsAre P w name rows) (hg : P.globalNamed name = some g) : g < w.heap.size := by
  obtain ⟨cs, hv, -⟩ := h
  unfold World.var? at hv
  rw [hg] at hv
  simp only [Option.bind_some] at hv
  rcases Nat.lt_or_ge g w.heap.size with h' | h'
  · exact h'
  · rw [Array.getElem?_eq_none h'] at hv; cases hv

end Go.Proofs.YtiamggjebaabkaaGreatDoor

namespace Go.Proofs.YtiamggjebaabkaaGreatDoor
open Go.RowKit
set_option linter.unusedVariables false

/-- Is it a leap year? -/
def lp (y : Int) : Bool := decide (y % 4 = 0 ∧ (y % 100 ≠ 0 ∨ y % 400 = 0))
/-- How many days a year has. -/
def yd (y : Int) : Int := if lp y = true then 366 else 365
/-- The number of a year's first day. -/
def st (y : Int) : Int := 365 * (y - 1970) + (y - 1) / 4 - (y - 1) / 100 + (y - 1) / 400 - 477
/-- The ends of the months of a year that isn't a leap year. -/
def endsL : List Int := [0, 31, 59, 90, 120, 151, 181, 212, 243, 273, 304, 334, 365]
def e0 (m : Int) : Int := endsL.getD m.toNat 0
/-- How many days of a year are over at the end of a month. -/
def em (y m : Int) : Int := if 2 ≤ m ∧ lp y = true then e0 m + 1 else e0 m
/-- How many days a month has. -/
def ml (y m : Int) : Int := em y m - em y (m - 1)
/-- Is it a year? -/
def isy (y : Int) : Prop := -9999 ≤ y ∧ y ≤ 9999
instance (y : Int) : Decidable (isy y) := by unfold isy; infer_instance
/-- Weekdays. -/
def wd (n : Int) : Int := (n + 3) % 7 + 1

/-- A date of a number. -/
def Dt (n y m d : Int) : Prop := isy y ∧ 1 ≤ m ∧ m ≤ 12 ∧ 1 ≤ d ∧ d ≤ ml y m ∧ n = st y + em y (m - 1) + d - 1

/-! leap years -/
theorem lp_yes {y : Int} : lp y = true ↔ (y % 4 = 0 ∧ (y % 100 ≠ 0 ∨ y % 400 = 0)) := by unfold lp; simp
theorem lp_no {y : Int} : lp y = false ↔ ¬ (y % 4 = 0 ∧ (y % 100 ≠ 0 ∨ y % 400 = 0)) := by unfold lp; simp
theorem tm_zero (y b : Int) : (y.tmod b == 0) = decide (y % b = 0) := by
  by_cases h : y % b = 0
  · rw [decide_eq_true h]; exact beq_iff_eq.2 (Int.tmod_eq_zero_of_dvd (Int.dvd_of_emod_eq_zero h))
  · rw [decide_eq_false h]; exact beq_eq_false_iff_ne.2 fun e => h (Int.emod_eq_zero_of_dvd (Int.dvd_of_tmod_eq_zero e))

/-! years -/
theorem quarter (z : Int) (b : Int) (hb : 0 < b) : (z + 1) / b - z / b = if (z + 1) % b = 0 then 1 else 0 := by
  have h1 := Int.emod_add_mul_ediv z b
  have h2 := Int.emod_add_mul_ediv (z + 1) b
  have p1 := Int.emod_nonneg z (by omega : b ≠ 0)
  have p2 := Int.emod_lt_of_pos z hb
  have p3 := Int.emod_nonneg (z + 1) (by omega : b ≠ 0)
  have p4 := Int.emod_lt_of_pos (z + 1) hb
  generalize hq : z / b = q at *
  generalize hq2 : (z + 1) / b = q2 at *
  have e : b * (q2 - q) = 1 + z % b - (z + 1) % b := by rw [Int.mul_sub]; omega
  split
  · next h =>
    rw [h] at e
    have hd : q2 - q = 1 := by
      have l1 : 0 < b * (q2 - q) := by omega
      have l2 : b * (q2 - q) < b * 2 := by omega
      have g1 : 0 < q2 - q := by
        rcases Int.lt_or_le 0 (q2 - q) with g | g
        · exact g
        · have := Int.mul_le_mul_of_nonneg_left g (by omega : (0 : Int) ≤ b); omega
      have g2 : q2 - q < 2 := Int.lt_of_mul_lt_mul_left l2 (by omega)
      omega
    exact hd
  · next h =>
    have l1 : b * (q2 - q) < b * 1 := by omega
    have l2 : b * (-1) < b * (q2 - q) := by omega
    have g1 := Int.lt_of_mul_lt_mul_left l1 (by omega)
    have g2 := Int.lt_of_mul_lt_mul_left l2 (by omega)
    omega
theorem st_succ (y : Int) : st (y + 1) = st y + yd y := by
  unfold st yd
  have h4 := quarter (y - 1) 4 (by omega)
  have h100 := quarter (y - 1) 100 (by omega)
  have h400 := quarter (y - 1) 400 (by omega)
  rw [show y - 1 + 1 = y by omega] at h4 h100 h400
  rw [show y + 1 - 1 = y by omega]
  cases hl : lp y with
  | true =>
    obtain ⟨a, b⟩ := lp_yes.1 hl
    rw [if_pos a] at h4
    rw [if_pos rfl]
    by_cases c : y % 400 = 0
    · rw [if_pos c] at h400; rw [if_pos (by omega)] at h100; omega
    · rw [if_neg c] at h400; rw [if_neg (by omega)] at h100; omega
  | false =>
    have a := lp_no.1 hl
    rw [if_neg (by decide)]
    by_cases b : y % 4 = 0
    · have c : y % 100 = 0 := by omega
      have d : ¬ y % 400 = 0 := by omega
      rw [if_pos b] at h4; rw [if_pos c] at h100; rw [if_neg d] at h400; omega
    · rw [if_neg b] at h4; rw [if_neg (by omega)] at h100; rw [if_neg (by omega)] at h400; omega
theorem st_cycle (y : Int) : st (y + 400) = st y + 146097 := by unfold st; omega
theorem yd_bd (y : Int) : 365 ≤ yd y ∧ yd y ≤ 366 := by unfold yd; split <;> omega
theorem st_1970 : st 1970 = 0 := by decide
theorem st_first : st (-9999) = -4371587 := by decide
theorem st_end : st 10000 = 2932897 := by decide
theorem st_add (y : Int) : ∀ k : Nat, st y + 365 * k ≤ st (y + k) ∧ st (y + k) ≤ st y + 366 * k
  | 0 => by simp
  | k + 1 => by
    have ih := st_add y k; have h := st_succ (y + k); have b := yd_bd (y + k)
    rw [show y + ((k + 1 : Nat) : Int) = y + k + 1 by omega]
    omega
theorem st_mono {a b : Int} (h : a ≤ b) : st a ≤ st b := by
  have := st_add a (b - a).toNat
  rw [show a + ((b - a).toNat : Int) = b by omega] at this
  omega
theorem st_bd {y : Int} (h : -30000 ≤ y) (h' : y ≤ 30000) : -20000000 ≤ st y ∧ st y ≤ 20000000 := by unfold st; omega
theorem st_in {y : Int} (h : isy y) : -4371587 ≤ st y ∧ st y + yd y ≤ 2932897 := by
  have h1 := st_mono h.1; have h2 := st_mono (show y + 1 ≤ 10000 by have := h.2; omega)
  rw [st_first] at h1; rw [st_end, st_succ] at h2
  exact ⟨h1, h2⟩

/-! months -/
theorem twelve {m : Int} (h : 1 ≤ m) (h' : m ≤ 12) : m = 1 ∨ m = 2 ∨ m = 3 ∨ m = 4 ∨ m = 5 ∨ m = 6 ∨ m = 7 ∨ m = 8 ∨ m = 9 ∨ m = 10 ∨ m = 11 ∨ m = 12 := by omega
theorem em_zero (y : Int) : em y 0 = 0 := rfl
theorem em_yd (y : Int) : em y 12 = yd y := by unfold em yd; cases lp y <;> rfl
/-- A month's days by name. -/
theorem ml_is (y : Int) {m : Int} (h : 1 ≤ m) (h' : m ≤ 12) : ml y m = if m = 2 ∧ lp y = true then 29 else [31, 28, 31, 30, 31, 30, 31, 31, 30, 31, 30, 31].getD (m - 1).toNat 0 := by
  unfold ml em
  cases lp y <;> (rcases twelve h h' with rfl | rfl | rfl | rfl | rfl | rfl | rfl | rfl | rfl | rfl | rfl | rfl <;> rfl)
theorem ml_bd (y : Int) {m : Int} (h : 1 ≤ m) (h' : m ≤ 12) : 28 ≤ ml y m ∧ ml y m ≤ 31 := by
  unfold ml em
  cases lp y <;> (rcases twelve h h' with rfl | rfl | rfl | rfl | rfl | rfl | rfl | rfl | rfl | rfl | rfl | rfl <;> decide)
theorem em_bd (y : Int) {m : Int} (h : 0 ≤ m) (h' : m ≤ 12) : 0 ≤ em y m ∧ em y m ≤ 366 := by
  unfold em
  rcases (by omega : m = 0 ∨ 1 ≤ m) with rfl | h1
  · cases lp y <;> decide
  · cases lp y <;> (rcases twelve h1 h' with rfl | rfl | rfl | rfl | rfl | rfl | rfl | rfl | rfl | rfl | rfl | rfl <;> decide)
theorem em_succ (y m : Int) : em y m = em y (m - 1) + ml y m := by unfold ml; omega
theorem em_add (y : Int) {a : Int} (ha : 0 ≤ a) : ∀ k : Nat, a + k ≤ 12 → em y a ≤ em y (a + k)
  | 0, _ => by simp
  | k + 1, h => by
    have ih := em_add y ha k (by omega)
    have e := em_succ y (a + (k + 1 : Nat))
    have b := ml_bd y (m := a + (k + 1 : Nat)) (by omega) (by omega)
    rw [show a + ((k + 1 : Nat) : Int) - 1 = a + k by omega] at e
    omega
theorem em_mono (y : Int) {a b : Int} (ha : 0 ≤ a) (h : a ≤ b) (hb : b ≤ 12) : em y a ≤ em y b := by
  have := em_add y ha (b - a).toNat (by omega)
  rwa [show a + ((b - a).toNat : Int) = b by omega] at this
theorem em_le (y : Int) {m : Int} (h : 0 ≤ m) (h' : m ≤ 12) : em y m ≤ yd y := by have := em_mono y h h' (by omega); rwa [em_yd] at this

/-! dates -/
theorem find_step (f : Int → Int) (a n : Int) : ∀ k : Nat, f a ≤ n → n < f (a + k) → ∃ y, a ≤ y ∧ y < a + k ∧ f y ≤ n ∧ n < f (y + 1)
  | 0, h, h' => by simp at h'; omega
  | k + 1, h, h' => by
    by_cases c : n < f (a + k)
    · obtain ⟨y, p, q, r⟩ := find_step f a n k h c
      exact ⟨y, p, by omega, r⟩
    · exact ⟨a + k, by omega, by omega, by omega, by rw [show a + (k : Int) + 1 = a + ((k + 1 : Nat) : Int) by omega]; exact h'⟩
theorem dt_some {n : Int} (h : -4371587 ≤ n) (h' : n ≤ 2932896) : ∃ y m d, Dt n y m d := by
  obtain ⟨y, p, q, r, s⟩ := find_step st (-9999) n 19999 (by rw [st_first]; exact h) (by rw [show (-9999 : Int) + (19999 : Nat) = 10000 by omega, st_end]; omega)
  rw [st_succ] at s
  obtain ⟨m, p', q', r', s'⟩ := find_step (em y) 0 (n - st y) 12 (by rw [em_zero]; omega) (by rw [show (0 : Int) + (12 : Nat) = 12 by omega, em_yd]; omega)
  have e := em_succ y (m + 1)
  rw [show m + 1 - 1 = m by omega] at e
  exact ⟨y, m + 1, n - st y - em y m + 1, ⟨by omega, by omega⟩, by omega, by omega, by omega, by omega, by rw [show m + 1 - 1 = m by omega]; omega⟩
theorem Dt.ends {n y m d : Int} (h : Dt n y m d) : st y ≤ n ∧ n < st (y + 1) ∧ em y (m - 1) ≤ n - st y ∧ n - st y < em y m := by
  obtain ⟨hy, m1, m2, d1, d2, rfl⟩ := h
  have e := em_succ y m; have b := em_bd y (m := m - 1) (by omega) (by omega); have c := em_le y (m := m) (by omega) m2
  rw [st_succ]
  omega
theorem Dt.range {n y m d : Int} (h : Dt n y m d) : -4371587 ≤ n ∧ n ≤ 2932896 := by
  have e := h.ends; have b := st_in h.1
  rw [st_succ] at e
  omega
theorem Dt.one {n y m d y' m' d' : Int} (h : Dt n y m d) (h' : Dt n y' m' d') : y = y' ∧ m = m' ∧ d = d' := by
  have e := h.ends; have e' := h'.ends
  have hy : y = y' := by
    rcases (by omega : y < y' ∨ y' < y ∨ y = y') with g | g | g
    · have := st_mono (show y + 1 ≤ y' by omega); omega
    · have := st_mono (show y' + 1 ≤ y by omega); omega
    · exact g
  subst hy
  have hm : m = m' := by
    obtain ⟨_, m1, m2, _⟩ := h; obtain ⟨_, m1', m2', _⟩ := h'
    rcases (by omega : m < m' ∨ m' < m ∨ m = m') with g | g | g
    · have := em_mono y (a := m) (b := m' - 1) (by omega) (by omega) (by omega); omega
    · have := em_mono y (a := m') (b := m - 1) (by omega) (by omega) (by omega); omega
    · exact g
  subst hm
  have a := h.2.2.2.2.2; have b := h'.2.2.2.2.2
  exact ⟨rfl, rfl, by omega⟩
end Go.Proofs.YtiamggjebaabkaaGreatDoor

namespace Go.Proofs.YtiamggjebaabkaaGreatDoor
open Go.RowKit
set_option linter.unusedVariables false

/-- The table of months' ends. -/
def Ends (w : World) : Prop := Lib.TabIs Tryz.prog w "horologe/day.ends" .i64 endsL
theorem gends : Tryz.prog.globalNamed "horologe/day.ends" = some 2 := by kernel_rfl
theorem Ends.below {w w' : World} (h : Ends w) (hb : Below w.heap.size w w') : Ends w' := Joins.tab_stays gends h hb (Nat.le_refl _)
theorem Ends.at {w : World} (h : Ends w) {m : Int} (hm : 0 ≤ m) (hm' : m ≤ 12) : w.cell? ⟨2, m.toNat, none⟩ = some (.int .i64 (e0 m)) :=
  Lib.TabIs.cell h gends m.toNat (by show m.toNat < 13; omega)

theorem leap_any (y : Int) (w : World) : Calls Tryz.prog 167 #[.int .i64 y] w fun e w' => e = .returned (.bool (lp y)) ∧ w = w' := by
  have h4 := tm_zero y 4; have h100 := tm_zero y 100; have h400 := tm_zero y 400
  by_cases a : y % 4 = 0
  · rw [decide_eq_true a] at h4
    by_cases b : y % 100 = 0
    · rw [decide_eq_true b] at h100
      have h100' : (y.tmod 100 != 0) = false := by rw [bne, h100]; rfl
      by_cases c : y % 400 = 0
      · rw [decide_eq_true c] at h400
        rw [lp_yes.2 ⟨a, Or.inr c⟩]
        clear a b c
        go_enter Tryz.func167, Tryz.ntmps167
        go_wp2
        go_ret
        exact ⟨rfl, rfl⟩
      · rw [decide_eq_false c] at h400
        rw [lp_no.2 (by omega)]
        clear a b c
        go_enter Tryz.func167, Tryz.ntmps167
        go_wp2
        go_ret
        exact ⟨rfl, rfl⟩
    · rw [decide_eq_false b] at h100
      have h100' : (y.tmod 100 != 0) = true := by rw [bne, h100]; rfl
      rw [lp_yes.2 ⟨a, Or.inl b⟩]
      clear a b h400
      go_enter Tryz.func167, Tryz.ntmps167
      go_wp2
      go_ret
      exact ⟨rfl, rfl⟩
  · rw [decide_eq_false a] at h4
    rw [lp_no.2 (by omega)]
    clear a h100 h400
    go_enter Tryz.func167, Tryz.ntmps167
    go_wp2
    go_ret
    exact ⟨rfl, rfl⟩

theorem start_any (y : Int) (w : World) (h : -20000 ≤ y) (h' : y ≤ 20001) : Calls Tryz.prog 131 #[.int .i64 y] w fun e w' => e = .returned (.int .i64 (st y)) ∧ w = w' := by
  have e : st y = -8024378 + 365 * (y + 20000) + ((y + 20000 + 3) / 4 - (y + 20000 + 99) / 100 + (y + 20000 + 399) / 400) := by unfold st; omega
  have E := Lib.hid e; clear e
  go_enter Tryz.func131, Tryz.ntmps131
  go_wp2
  go_ret
  exact ⟨ret1_eq (int_eq E.out.symm), rfl⟩

theorem end_any (y m : Int) (w : World) (h : 0 ≤ m) (h' : m ≤ 12) (he : Ends w) : Calls Tryz.prog 133 #[.int .i64 y, .int .i64 m] w fun e w' => e = .returned (.int .i64 (em y m)) ∧ w = w' := by
  have hc := he.at h h'
  clear he
  obtain ⟨k, rfl⟩ : ∃ k : Nat, m = k := ⟨m.toNat, by omega⟩
  have hk : k < 13 := by omega
  have hb : 0 ≤ e0 k ∧ e0 k ≤ 365 := by
    unfold e0
    rcases (by omega : (k : Int) = 0 ∨ 1 ≤ (k : Int)) with h0 | h1
    · rw [h0]; decide
    · rcases twelve h1 h' with g | g | g | g | g | g | g | g | g | g | g | g <;> (rw [g]; decide)
  rw [show ((k : Int)).toNat = k from Int.toNat_natCast k] at hc
  have E : Hid (em y k = if 2 ≤ (k : Int) ∧ lp y = true then e0 k + 1 else e0 k) := Lib.hid rfl
  generalize e0 k = z at *
  generalize em y k = r at *
  by_cases a : 2 ≤ (k : Int)
  · cases hl : lp y with
    | true =>
      have E2 : Hid (r = z + 1) := Lib.hid (by rw [E.out, if_pos ⟨a, hl⟩])
      clear E
      have hL := leap_any y w
      rw [hl] at hL
      clear hl
      go_enter Tryz.func133, Tryz.ntmps133
      go_wp2_with (go_at_call 167; refine hL.mono ?_; rintro e w' ⟨rfl, rfl⟩)
      go_ret
      exact ⟨ret1_eq (int_eq E2.out.symm), rfl⟩
    | false =>
      have E2 : Hid (r = z) := Lib.hid (by rw [E.out, if_neg (by rw [hl]; simp)])
      clear E
      have hL := leap_any y w
      rw [hl] at hL
      clear hl
      go_enter Tryz.func133, Tryz.ntmps133
      go_wp2_with (go_at_call 167; refine hL.mono ?_; rintro e w' ⟨rfl, rfl⟩)
      go_ret
      exact ⟨ret1_eq (int_eq E2.out.symm), rfl⟩
  · have E2 : Hid (r = z) := Lib.hid (by rw [E.out, if_neg (by omega)])
    clear E
    go_enter Tryz.func133, Tryz.ntmps133
    go_wp2
    go_ret
    exact ⟨ret1_eq (int_eq E2.out.symm), rfl⟩

end Go.Proofs.YtiamggjebaabkaaGreatDoor

namespace Go.Proofs.YtiamggjebaabkaaGreatDoor
open Go.RowKit
set_option linter.unusedVariables false

theorem first_any (w : World) : Calls Tryz.prog 121 #[] w fun e w' => e = .returned (.int .i64 (-4371587)) ∧ w = w' := by
  have hS := start_any (-9999) w (by omega) (by omega)
  rw [st_first] at hS
  go_enter Tryz.func121, Tryz.ntmps121
  go_wp2_with (go_at_call 131; refine hS.mono ?_; rintro e w' ⟨rfl, rfl⟩)
  go_ret
  exact ⟨rfl, rfl⟩
theorem last_any (w : World) : Calls Tryz.prog 122 #[] w fun e w' => e = .returned (.int .i64 2932896) ∧ w = w' := by
  have hS := start_any 10000 w (by omega) (by omega)
  rw [st_end] at hS
  go_enter Tryz.func122, Tryz.ntmps122
  go_wp2_with (go_at_call 131; refine hS.mono ?_; rintro e w' ⟨rfl, rfl⟩)
  go_ret
  exact ⟨rfl, rfl⟩

/-! weekdays -/
end Go.Proofs.YtiamggjebaabkaaGreatDoor
