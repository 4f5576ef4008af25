/- Merged: BigM, BigA, BigB. -/
import Derived.RowKit
import Derived.Test.YtdonicaiimeleaaGreatDoorGListParses1
import Derived.Outline
import Derived.Deep.Draws
import Derived.LoopTactic
import Derived.Laws.OwnMore
import Derived.Maps.AppendAt
namespace Go.Proofs.YtdonicaiimeleaaGreatDoor

/-- The number of a row of digits, the lowest first. -/
def nv : List Nat → Nat
  | [] => 0
  | d :: r => d + 65536 * nv r
/-- The digit at i; 0 beyond the last one. -/
def dg (ds : List Nat) (i : Nat) : Nat := ds.getD i 0
/-- The number of the digits from i on. -/
def vd (ds : List Nat) (i : Nat) : Nat := nv (ds.drop i)
/-- All digits are less than the base. -/
def low (ds : List Nat) : Prop := ∀ d ∈ ds, d < 65536

theorem vd_zero (ds : List Nat) : vd ds 0 = nv ds := rfl
theorem vd_end {ds : List Nat} {i : Nat} (h : ds.length ≤ i) : vd ds i = 0 := by unfold vd; rw [List.drop_eq_nil_of_le h]; rfl
theorem dg_end {ds : List Nat} {i : Nat} (h : ds.length ≤ i) : dg ds i = 0 := by unfold dg; rw [List.getD_eq_getElem?_getD, List.getElem?_eq_none h]; rfl
theorem vd_step (ds : List Nat) (i : Nat) : vd ds i = dg ds i + 65536 * vd ds (i + 1) := by
  by_cases h : i < ds.length
  · unfold vd dg
    rw [List.drop_eq_getElem_cons h]
    simp [nv, List.getD_eq_getElem?_getD, List.getElem?_eq_getElem h]
  · rw [vd_end (by omega), vd_end (by omega), dg_end (by omega)]
theorem dg_low {ds : List Nat} (h : low ds) (i : Nat) : dg ds i < 65536 := by
  by_cases hi : i < ds.length
  · unfold dg
    rw [List.getD_eq_getElem?_getD, List.getElem?_eq_getElem hi]
    exact h _ (List.getElem_mem hi)
  · rw [dg_end (by omega)]; omega
theorem nv_snoc (ds : List Nat) (d : Nat) : nv (ds ++ [d]) = nv ds + 65536 ^ ds.length * d := by
  induction ds with
  | nil => simp [nv]
  | cons x r ih =>
    simp only [List.cons_append, nv, ih, List.length_cons, Nat.pow_succ]
    rw [Nat.mul_add, Nat.add_assoc]
    congr 2
    rw [Nat.mul_comm (65536 ^ r.length) 65536, Nat.mul_assoc]
theorem low_snoc {ds : List Nat} {d : Nat} (h : low ds) (hd : d < 65536) : low (ds ++ [d]) := by
  intro x hx
  rcases List.mem_append.mp hx with hx | hx
  · exact h x hx
  · rw [List.mem_singleton.mp hx]; exact hd
theorem low_nil : low [] := by intro d hd; cases hd
theorem nv_lt {ds : List Nat} (h : low ds) : nv ds < 65536 ^ ds.length := by
  induction ds with
  | nil => simp [nv]
  | cons x r ih =>
    have h1 := ih (fun d hd => h d (List.mem_cons_of_mem _ hd))
    have h2 := h x List.mem_cons_self
    simp only [nv, List.length_cons, Nat.pow_succ]
    omega
theorem nv_zeros (i : Nat) : nv (List.replicate i 0) = 0 := by
  induction i with
  | zero => rfl
  | succ i ih => rw [List.replicate_succ]; simp [nv, ih]
theorem low_zeros (i : Nat) : low (List.replicate i 0) := by
  intro d hd; rw [(List.mem_replicate.mp hd).2]; omega
theorem low_take {ds : List Nat} (h : low ds) (i : Nat) : low (ds.take i) := fun d hd => h d (List.mem_of_mem_take hd)

/-- A number is less where the digits from some place on are less. -/
theorem less_from {a b : List Nat} (ha : low a) : ∀ i, vd a i < vd b i → nv a < nv b := by
  intro i
  induction i with
  | zero => exact id
  | succ i ih =>
    intro h
    refine ih ?_
    have := vd_step a i; have := vd_step b i; have := dg_low ha i
    omega

/-- What a step of plus keeps. -/
theorem plus_step {o a b : List Nat} {i c T : Nat} (ho : o.length = i) (h : nv o + 65536 ^ i * (c + vd a i + vd b i) = T) :
    nv (o ++ [(dg a i + dg b i + c) % 65536]) + 65536 ^ (i + 1) * ((dg a i + dg b i + c) / 65536 + vd a (i + 1) + vd b (i + 1)) = T := by
  rw [nv_snoc, ho, ← h, Nat.add_assoc, Nat.pow_succ, Nat.mul_assoc, ← Nat.mul_add]
  congr 2
  rw [vd_step a i, vd_step b i]
  have := Nat.div_add_mod (dg a i + dg b i + c) 65536
  omega
/-- What a step of times' row keeps. -/
theorem row_step {o a : List Nat} {i k c x T : Nat} (ho : o.length = i + k) (h : nv o + 65536 ^ (i + k) * (c + vd a k * x) = T) :
    nv (o ++ [(dg a k * x + c) % 65536]) + 65536 ^ (i + (k + 1)) * ((dg a k * x + c) / 65536 + vd a (k + 1) * x) = T := by
  rw [nv_snoc, ho, ← h, Nat.add_assoc, ← Nat.add_assoc i k 1, Nat.pow_succ, Nat.mul_assoc, ← Nat.mul_add]
  congr 2
  rw [vd_step a k, Nat.add_mul, Nat.mul_assoc]
  have := Nat.div_add_mod (dg a k * x + c) 65536
  generalize dg a k * x = p at *
  generalize vd a (k + 1) * x = q at *
  omega
/-- What a step of minus keeps; 'l' is what was lent. -/
theorem minus_step {o a b : List Nat} {i l : Nat} {S T : Nat} (ho : o.length = i) (ha : low a) (hb : low b) (hl : l ≤ 1)
    (h : nv o + 65536 ^ i * vd a i + S = T + 65536 ^ i * (vd b i + l)) :
    nv (o ++ [(65536 + dg a i - dg b i - l) % 65536]) + 65536 ^ (i + 1) * vd a (i + 1) + S = T + 65536 ^ (i + 1) * (vd b (i + 1) + (1 - (65536 + dg a i - dg b i - l) / 65536)) := by
  have h1 := dg_low ha i; have h2 := dg_low hb i
  rw [vd_step a i, vd_step b i] at h
  rw [nv_snoc, ho, Nat.pow_succ]
  have hn := Nat.div_add_mod (65536 + dg a i - dg b i - l) 65536
  have hq : (65536 + dg a i - dg b i - l) / 65536 ≤ 1 := by omega
  generalize hN : 65536 + dg a i - dg b i - l = n at *
  have hm := Nat.mod_lt n (show 65536 > 0 by omega)
  generalize n % 65536 = r at *
  generalize n / 65536 = q at *
  generalize 65536 ^ i = P at *
  have key : r + dg b i + l = dg a i + 65536 * (1 - q) := by omega
  have kp := congrArg (P * ·) key
  simp only [Nat.mul_add, Nat.mul_assoc] at *
  omega
theorem minus_end {o a b : List Nat} {l : Nat} (ho : low o) (hoa : o.length = a.length) (hab : nv b ≤ nv a)
    (h : nv o + 65536 ^ a.length * vd a a.length + nv b = nv a + 65536 ^ a.length * (vd b a.length + l)) : nv o = nv a - nv b := by
  have h1 := nv_lt ho
  rw [hoa] at h1
  rw [vd_end (Nat.le_refl a.length)] at h
  generalize 65536 ^ a.length = P at *
  rcases Nat.eq_zero_or_pos (vd b a.length + l) with h0 | h0
  · rw [h0] at h; omega
  · have : P * 1 ≤ P * (vd b a.length + l) := Nat.mul_le_mul_left _ h0
    omega
/-- A row whose last digit isn't 0 is a number above 0. -/
theorem nv_pos_last {ds : List Nat} {n : Nat} (h : dg ds n ≠ 0) : 0 < nv ds := by
  have h1 : vd ds n = dg ds n + 65536 * vd ds (n + 1) := vd_step ds n
  have : ∀ i, 0 < vd ds i → 0 < nv ds := by
    intro i
    induction i with
    | zero => exact id
    | succ i ih => intro h; refine ih ?_; have := vd_step ds i; omega
  exact this n (by omega)
/-- A 0 at the end changes nothing. -/
theorem nv_cut {ds : List Nat} {n : Nat} (hn : ds.length = n + 1) (h : dg ds n = 0) : nv (ds.take n) = nv ds := by
  have e : ds = ds.take n ++ [dg ds n] := by
    have h1 := List.take_append_getElem (l := ds) (i := n) (by omega)
    have : dg ds n = ds[n]'(by omega) := by unfold dg; rw [List.getD_eq_getElem?_getD, List.getElem?_eq_getElem (by omega)]; rfl
    rw [this, h1, List.take_of_length_le (by omega)]
  conv => rhs; rw [e, nv_snoc, h]
  simp
theorem dg_take {ds : List Nat} {n j : Nat} (h : j < n) : dg (ds.take n) j = dg ds j := by
  unfold dg
  simp only [List.getD_eq_getElem?_getD]
  rw [List.getElem?_take_of_lt h]
end Go.Proofs.YtdonicaiimeleaaGreatDoor

namespace Go.Proofs.YtdonicaiimeleaaGreatDoor
open Go.RowKit

/-- A block that is known whole. -/
theorem whole_cell {w : World} {g : Nat} {cs : Array Value} {t : TypeId} (h : w.heap[g]? = some (.cells cs t (0, 0))) (i : Nat) : w.cell? ⟨g, i, none⟩ = cs[i]? := by simp [World.cell?, h]
theorem whole_free {w : World} {g : Nat} {cs : Array Value} {t : TypeId} (h : w.heap[g]? = some (.cells cs t (0, 0))) (i : Nat) : w.frozen? ⟨g, i, none⟩ = false := by simp [World.frozen?, h]
theorem whole_lt {w : World} {g : Nat} {o : Obj} (h : w.heap[g]? = some o) : g < w.heap.size := by
  rcases Nat.lt_or_ge g w.heap.size with hlt | hge
  · exact hlt
  · rw [Array.getElem?_eq_none hge] at h; cases h
theorem new_whole {w w' : World} {cs : Array Value} {t : TypeId} (h : Below (w.heap.size + 1) (w.alloc (.cells cs t)) w') : w'.heap[w.heap.size]? = some (.cells cs t (0, 0)) := by
  rw [h.block _ (by omega)]; exact heap_alloc_new w _

/-- The slice at A reads as the digits ds. -/
def Rd (w : World) (A : Option Addr) (ds : List Nat) : Prop :=
  low ds ∧ (ds = [] ∨ ∃ b : Nat, A = some ⟨b, 0, none⟩ ∧ b < w.heap.size ∧ ∀ j, j < ds.length → w.cell? ⟨b, j, none⟩ = some (.int .u64 (dg ds j)))

theorem Rd.below {w w' : World} {A : Option Addr} {ds : List Nat} (h : Rd w A ds) (hb : Below w.heap.size w w') : Rd w' A ds := by
  refine ⟨h.1, h.2.imp id ?_⟩
  rintro ⟨b, hA, hlt, hc⟩
  exact ⟨b, hA, Nat.lt_of_lt_of_le hlt hb.size, fun j hj => (hb.cell (p := ⟨b, j, none⟩) hlt).trans (hc j hj)⟩
theorem Rd.drewN {w : World} {A : Option Addr} {ds : List Nat} (h : Rd w A ds) (n : Nat) : Rd (w.drewN n) A ds := h
theorem Rd.cell {w : World} {A : Option Addr} {ds : List Nat} (h : Rd w A ds) {i : Nat} (hi : i < ds.length) : ∃ b, A = some ⟨b, 0, none⟩ ∧ b < w.heap.size ∧ w.cell? ⟨b, i, none⟩ = some (.int .u64 (dg ds i)) := by
  rcases h.2 with rfl | ⟨b, hA, hlt, hc⟩
  · simp at hi
  · exact ⟨b, hA, hlt, hc i hi⟩
theorem Rd.take_ {w : World} {A : Option Addr} {ds : List Nat} (h : Rd w A ds) (n : Nat) (hn : n ≤ ds.length) : Rd w A (ds.take n) := by
  refine ⟨low_take h.1 n, h.2.imp (fun e => by rw [e]; simp) ?_⟩
  rintro ⟨b, hA, hlt, hc⟩
  refine ⟨b, hA, hlt, fun j hj => ?_⟩
  rw [List.length_take] at hj
  rw [dg_take (by omega)]
  exact hc j (by omega)
/-- Stores over a Bool and over a slice change no digits. -/
theorem Rd.store2 {w : World} {A : Option Addr} {ds : List Nat} (h : Rd w A ds) {p q : Addr} {b : Bool} {C : Option Addr} {n c : Nat} (hp : w.cell? p = some (.bool b)) (hq : w.cell? q = some (.slice C n c)) (u v : Value) :
    Rd ((w.setCell p u).setCell q v) A ds := by
  refine ⟨h.1, h.2.imp id ?_⟩
  rintro ⟨g, hA, hlt, hc⟩
  refine ⟨g, hA, by simpa [World.setCell] using hlt, fun j hj => ?_⟩
  have e := hc j hj
  rw [World.cell?_setCell_other _ _ _ _ (fun k => by rw [← k, hq] at e; cases e), World.cell?_setCell_other _ _ _ _ (fun k => by rw [← k, hp] at e; cases e)]
  exact e

theorem digit_any (A : Option Addr) (ds : List Nat) (c i : Nat) (w : World) (h : Rd w A ds) :
    Calls Tryz.prog 192 #[.slice A ds.length c, .int .i64 i] w fun e w' => e = .returned (.int .u64 (dg ds i)) ∧ w = w' := by
  by_cases hi : i < ds.length
  · obtain ⟨b, rfl, hlt, hc⟩ := h.cell hi
    go_enter Tryz.func192, Tryz.ntmps192
    go_wp2
    go_ret
    exact ⟨rfl, rfl⟩
  · have hd := Lib.hid (dg_end (ds := ds) (i := i) (by omega))
    go_enter Tryz.func192, Tryz.ntmps192
    go_wp2
    go_ret
    exact ⟨ret1_eq (int_eq (by rw [hd.out]; rfl)), rfl⟩

/-- A slice's length: for measures. -/
def slen : Value → Nat | .slice _ n _ => n | _ => 0
/-- Is a row without a 0 at its end? -/
def trim (ds : List Nat) : Prop := 0 < ds.length → 0 < nv ds

set_option maxHeartbeats 800000 in
theorem cut_any (A : Option Addr) (ds : List Nat) (c : Nat) (w : World) (h : Rd w A ds) (hc : ds.length ≤ c) (hc' : c ≤ maxLen) :
    Calls Tryz.prog 193 #[.slice A ds.length c] w fun e w' => ∃ ds' : List Nat, e = .returned (.slice A ds'.length c) ∧ w = w' ∧ Rd w A ds' ∧ ds'.length ≤ ds.length ∧ nv ds' = nv ds ∧ trim ds' := by
  unfold maxLen at hc'
  go_enter Tryz.func193, Tryz.ntmps193
  go_wp2
  go_loop [0] (fun s => ∃ n : Nat, n ≤ ds.length ∧ s = .slice A n c ∧ nv (ds.take n) = nv ds) slen
  case atStart => exact ⟨ds.length, Nat.le_refl _, rfl, by rw [List.take_of_length_le (Nat.le_refl _)]⟩
  case round =>
    obtain ⟨n, hn, rfl, hv⟩ := hrel
    have HV := Lib.hid hv; clear hv
    cases n with
    | zero =>
      go_wp2
      go_ret
      exact ⟨[], rfl, rfl, ⟨low_nil, .inl rfl⟩, Nat.zero_le _, by simpa using HV.out, fun h => absurd h (by simp)⟩
    | succ n =>
      obtain ⟨b, rfl, hlt, hcell⟩ := h.cell (i := n) (by omega)
      by_cases hd : dg ds n = 0
      · have hd' : ((dg ds n : Int) == 0) = true := by simp [hd]
        have HD := Lib.hid hd; clear hd
        go_wp2
        go_round
        case rel =>
          refine ⟨n, by omega, rfl, ?_⟩
          have := nv_cut (ds := ds.take (n + 1)) (n := n) (by rw [List.length_take]; omega) (by rw [dg_take (by omega)]; exact HD.out)
          rw [List.take_take, Nat.min_eq_left (by omega)] at this
          rw [this]; exact HV.out
        case measure => simp [slen]
      · have hd' : ((dg ds n : Int) == 0) = false := by simp [hd]
        have HD := Lib.hid hd; clear hd
        go_wp2
        go_ret
        have e : (ds.take (n + 1)).length = n + 1 := by rw [List.length_take, Nat.min_eq_left (by omega)]
        refine ⟨ds.take (n + 1), by rw [e]; rfl, rfl, h.take_ _ (by omega), by rw [List.length_take]; omega, HV.out, fun _ => ?_⟩
        exact nv_pos_last (n := n) (by rw [dg_take (by omega)]; exact HD.out)

theorem slot_start {x y : List Nat} {n : Nat} (hx : x.length ≤ n) (hy : y.length ≤ n) :
    (Value.int .i64 ((n : Int) - 1) = .int .i64 (-1) ∧ vd x 0 = vd y 0) ∨ ∃ m : Nat, Value.int .i64 ((n : Int) - 1) = .int .i64 m ∧ m < n ∧ vd x (m + 1) = vd y (m + 1) := by
  cases n with
  | zero => exact .inl ⟨rfl, by rw [vd_end hx, vd_end hy]⟩
  | succ m => exact .inr ⟨m, int_eq (by omega), by omega, by rw [vd_end hx, vd_end hy]⟩

set_option maxHeartbeats 800000 in
theorem less_any (A B : Option Addr) (xs ys : List Nat) (c d : Nat) (w : World) (ha : Rd w A xs) (hb : Rd w B ys) (hla : xs.length ≤ 10000) (hlb : ys.length ≤ 10000) :
    Calls Tryz.prog 176 #[.slice A xs.length c, .slice B ys.length d] w fun e w' => e = .returned (.bool (decide (nv xs < nv ys))) ∧ w = w' := by
  have s1 : xs.length < ys.length → _ := fun h => Lib.hid (slot_start (x := xs) (y := ys) (n := ys.length) (by omega) (by omega))
  have s2 : ¬ xs.length < ys.length → _ := fun h => Lib.hid (slot_start (x := xs) (y := ys) (n := xs.length) (by omega) (by omega))
  go_enter Tryz.func176, Tryz.ntmps176
  go_wp2
  all_goals
    go_loop [5] (fun s => (s = .int .i64 (-1) ∧ vd xs 0 = vd ys 0) ∨ ∃ m : Nat, s = .int .i64 m ∧ m < 10000 ∧ vd xs (m + 1) = vd ys (m + 1)) (fun s => (intOf s + 1).toNat)
    case atStart => first
      | exact (s1 (by assumption)).out.imp id fun ⟨m, h1, h2, h3⟩ => ⟨m, h1, by omega, h3⟩
      | exact (s2 (by assumption)).out.imp id fun ⟨m, h1, h2, h3⟩ => ⟨m, h1, by omega, h3⟩
    case round =>
      clear s1 s2
      rcases hrel with ⟨rfl, hv⟩ | ⟨m, rfl, hm, hv⟩
      · have HV := Lib.hid hv; clear hv
        go_wp2
        go_ret
        exact ⟨ret1_eq (bool_eq (by have := HV.out; rw [vd_zero, vd_zero] at this; simp [this])), rfl⟩
      · have HV := Lib.hid hv; clear hv
        have v1 := Lib.hid (vd_step xs m); have v2 := Lib.hid (vd_step ys m)
        go_wp2_with fail
        refine (digit_any _ _ _ _ _ ha).mono ?_
        rintro e w' ⟨rfl, rfl⟩
        go_wp2_with fail
        refine (digit_any _ _ _ _ _ hb).mono ?_
        rintro e w' ⟨rfl, rfl⟩
        by_cases hd : dg xs m = dg ys m
        · have hd' : ((dg xs m : Int) != (dg ys m : Int)) = false := by simp [hd]
          have HD := Lib.hid hd; clear hd
          go_wp2_with fail
          go_round
          case rel =>
            cases m with
            | zero => exact .inl ⟨rfl, by rw [v1.out, v2.out, HV.out, HD.out]⟩
            | succ m => exact .inr ⟨m, int_eq (by omega), by omega, by rw [v1.out, v2.out, HV.out, HD.out]⟩
          case measure => simp [intOf]
        · have hd' : ((dg xs m : Int) != (dg ys m : Int)) = true := by simp; omega
          have HD := Lib.hid hd; clear hd
          go_wp2_with fail
          refine (digit_any _ _ _ _ _ ha).mono ?_
          rintro e w' ⟨rfl, rfl⟩
          go_wp2_with fail
          refine (digit_any _ _ _ _ _ hb).mono ?_
          rintro e w' ⟨rfl, rfl⟩
          go_wp2_with fail
          go_ret
          refine ⟨ret1_eq (bool_eq ?_), rfl⟩
          have h1 := less_from ha.1 (b := ys) m
          have h2 := less_from hb.1 (b := xs) m
          have := v1.out; have := v2.out; have := HV.out; have := HD.out
          by_cases hlt : dg xs m < dg ys m
          · have h3 := h1 (by omega)
            rw [decide_eq_true h3, decide_eq_true (by omega)]
          · have h3 := h2 (by omega)
            rw [decide_eq_false (by omega), decide_eq_false (by omega)]
end Go.Proofs.YtdonicaiimeleaaGreatDoor

namespace Go.Proofs.YtdonicaiimeleaaGreatDoor
open Go.RowKit

/-- The cells of a row of digits. -/
def cl (ds : List Nat) : List Value := ds.map fun d : Nat => Value.int .u64 (d : Int)
theorem cl_get {ds : List Nat} {j : Nat} (hj : j < ds.length) : (cl ds)[j]? = some (.int .u64 (dg ds j)) := by
  unfold cl dg
  rw [List.getElem?_map, List.getElem?_eq_getElem hj, List.getD_eq_getElem?_getD, List.getElem?_eq_getElem hj]
  rfl
theorem cl_snoc (ds : List Nat) (d : Nat) : cl (ds ++ [d]) = cl ds ++ [.int .u64 d] := by unfold cl; rw [List.map_append]; rfl

/-- The slice v is the call's own, and holds the digits ds. -/
def Own (w : World) (base : Nat) (v : Value) (ds : List Nat) : Prop := w.ownsRow base 149 1 v ds.length (cl ds)
theorem Own.below {w w' : World} {base B : Nat} {v : Value} {ds : List Nat} (h : Own w base v ds) (hb : Below B w w') (hB : w.heap.size ≤ B) : Own w' base v ds := by
  refine ⟨h.1, h.2.imp id ?_⟩
  rintro ⟨g, cap, cur, hv, hbg, hh, r⟩
  refine ⟨g, cap, cur, hv, hbg, ?_, r⟩
  rw [hb.block g (Nat.lt_of_lt_of_le (World.ownsRow.lt h g (by rw [hv]; rfl)).2 hB)]
  exact hh
theorem Own.drewN {w : World} {base : Nat} {v : Value} {ds : List Nat} (h : Own w base v ds) (n : Nat) : Own (w.drewN n) base v ds := h
theorem below_drewN {w w' : World} {B : Nat} (h : Below B w w') (n : Nat) : Below B w (w'.drewN n) := ⟨h.os, h.tape, h.output, h.size, h.block⟩
/-- A row of the call's own reads as its digits. -/
theorem own_rd {w : World} {base : Nat} {v : Value} {ds : List Nat} (h : Own w base v ds) (hl : low ds) :
    ∃ A c, v = .slice A ds.length c ∧ ds.length ≤ c ∧ c ≤ maxLen ∧ Rd w A ds := by
  rcases h.2 with ⟨hv, hn⟩ | ⟨g, cap, cur, hv, hb, hh, hc, hm, _, _⟩
  · have : ds = [] := List.eq_nil_of_length_eq_zero hn
    subst this
    exact ⟨none, 0, hv, Nat.le_refl _, by decide, hl, .inl rfl⟩
  · refine ⟨_, cap, hv, hc, hm, hl, .inr ⟨g, rfl, whole_lt hh, fun j hj => ?_⟩⟩
    have := World.ownsRow.cells h (g := g) (by rw [hv]; rfl) j _ (cl_get hj)
    rw [← this]
    unfold Addr.add
    by_cases h0 : j = 0
    · subst h0; rfl
    · simp [h0]

theorem info64 : (Tryz.prog.info? 149).map (fun i => (i.zero, i.size, i.bytes)) = some (some (.int .u64 0), 1, 8) := by kernel_rfl

/-- append of one digit. -/
theorem app_digit {ops : Array Oper} {rest : List Oper} {o : Oper} {a : Act} {Q : Exit → Act → World → Prop} {W : World} (s x : Operand) (base : Nat) (v : Value) (ds : List Nat) (d : Int) (dn : Nat)
    (hown : Own W base v ds) (hd : d = dn) (hlen : ds.length ≤ 10000) (hbase : base ≤ W.heap.size)
    (hgd : o.guard = none) (ho : o.op = .call { callee := .builtin .append, args := #[s, x], argTypes := #[182, 182] })
    (hs : a.eval s = v) (hx : a.eval x = .slice (some ⟨W.heap.size, 0, none⟩) 1 1)
    (h : ∀ v' w', Own w' base v' (ds ++ [dn]) → Below base W w' → wpList Tryz.prog ops Q rest (a.put o.dst v') w') :
    wpList Tryz.prog ops Q (o :: rest) a (W.alloc (.cells #[.int .u64 d] 149)) := by
  obtain ⟨i0, hi0, hz0, hz1, hz2⟩ := info_parts info64
  subst hd
  refine wpList_append_own _ hgd s x 182 ho base 149 i0 _ 1 8 Tryz.underlying182 hi0 hz0 hz1 hz2 rfl (by omega) v ds.length (cl ds) hs (World.ownsRow.alloc hown _)
    ⟨W.heap.size, 0, none⟩ 1 1 [.int .u64 dn] hx rfl (cell_one_new _ _ _) ?_ ?_ ?_ ?_ ?_
  · intro u hu; rw [List.mem_singleton.mp hu]; rfl
  · unfold maxLen; omega
  · omega
  · rw [World.size_alloc]; omega
  · intro v' w' h1 h2 _
    refine h v' w' (by unfold Own; rw [cl_snoc, List.length_append]; exact h1) ?_
    have hb : Below base W (W.alloc (.cells #[.int .u64 (dn : Int)] 149)) := (Below.refl _ _).alloc hbase _
    exact hb.grown h2 (by rw [World.size_alloc]; omega) fun k hk => (World.ownsRow.lt hown k hk).1

set_option maxHeartbeats 1600000 in
theorem plus_any (A B : Option Addr) (xs ys : List Nat) (c d : Nat) (w : World) (ha : Rd w A xs) (hb : Rd w B ys) (hla : xs.length ≤ 5000) (hlb : ys.length ≤ 5000) :
    Calls Tryz.prog 177 #[.slice A xs.length c, .slice B ys.length d] w fun e w' => ∃ (C : Option Addr) (zs : List Nat) (k : Nat), e = .returned (.slice C zs.length k) ∧ zs.length ≤ k ∧ k ≤ maxLen ∧ Rd w' C zs ∧
      zs.length ≤ max xs.length ys.length + 1 ∧ nv zs = nv xs + nv ys ∧ (0 < zs.length → 0 < xs.length ∨ 0 < ys.length) ∧ Below w.heap.size w w' := by
  go_enter Tryz.func177, Tryz.ntmps177
  go_wp2
  go_loopw [5, 6, 7] (fun s t u wr => ∃ (i cy : Nat) (zs : List Nat), u = .int .i64 i ∧ t = .int .u64 cy ∧ zs.length = i ∧ low zs ∧ cy ≤ 1 ∧ i ≤ max xs.length ys.length + 1 ∧ (i = max xs.length ys.length + 1 → cy = 0) ∧
      (0 < i → 0 < xs.length ∨ 0 < ys.length) ∧ (i = 0 → cy = 0) ∧
      nv zs + 65536 ^ i * (cy + vd xs i + vd ys i) = nv xs + nv ys ∧ Own wr w.heap.size s zs ∧ Below w.heap.size w wr) (fun _ _ u _ => max xs.length ys.length + 1 - (intOf u).toNat)
  case atStart => exact ⟨0, 0, [], rfl, rfl, rfl, low_nil, by omega, by omega, by omega, by omega, fun _ => rfl, by simp [nv, vd_zero], World.ownsRow_nil w _ _ _, Below.refl _ _⟩
  case round =>
    obtain ⟨i, cy, zs, rfl, rfl, hi, hlow, hcy, him, hend, hpos, h0, hv, hown, hbw⟩ := hrel
    have HV := Lib.hid hv; have HI := Lib.hid hi; have HE := Lib.hid hend; have HP := Lib.hid hpos; have H0 := Lib.hid h0; have HO := Lib.hid hown; have HB := Lib.hid hbw; have HL := Lib.hid hlow
    clear hv hi hend hpos h0 hown hbw hlow
    have ra := Lib.hid (ha.below HB.out); have rb := Lib.hid (hb.below HB.out)
    have l1 := dg_low ha.1 i; have l2 := dg_low hb.1 i
    by_cases hgo : i < xs.length ∨ (¬ i < xs.length ∧ i < ys.length) ∨ (¬ i < xs.length ∧ ¬ i < ys.length ∧ 0 < cy)
    · have hmax : i + 1 ≤ max xs.length ys.length + 1 ∧ (i + 1 = max xs.length ys.length + 1 → cy = 0 ∨ 1 ≤ i) := by have := HE.out; have := H0.out; omega
      rcases hgo with h1 | ⟨h1, h2⟩ | ⟨h1, h2, h3⟩
      all_goals
        have fin : Hid ((dg xs i + dg ys i + cy) / 65536 ≤ 1 ∧ (i + 1 = max xs.length ys.length + 1 → (dg xs i + dg ys i + cy) / 65536 = 0) ∧ (0 < i + 1 → 0 < xs.length ∨ 0 < ys.length) ∧ i + 1 ≤ max xs.length ys.length + 1) := by
          have := HE.out; have := H0.out; have := HP.out
          refine ⟨by omega, fun he => ?_, fun _ => by omega, by omega⟩
          have e1 : dg xs i = 0 := dg_end (by omega)
          have e2 : dg ys i = 0 := dg_end (by omega)
          omega
        go_wp2_with fail
        refine (digit_any _ _ _ _ _ ra.out).mono ?_
        rintro e w' ⟨rfl, rfl⟩
        go_wp2_with fail
        refine (digit_any _ _ _ _ _ rb.out).mono ?_
        rintro e w' ⟨rfl, rfl⟩
        go_wp2_with (at_builtin; refine app_digit _ _ w.heap.size _ zs _ ((dg xs i + dg ys i + cy) % 65536) HO.out ?hd ?hlen ?hbase rfl rfl rfl rfl ?_)
        case hd => omega
        case hlen => have := HI.out; omega
        case hbase => exact HB.out.size
        rename_i W0
        intro v' w1 hown1 hb1
        have HO1 := Lib.hid hown1; have HB1 := Lib.hid (HB.out.trans hb1); clear hown1 hb1
        go_wp2_with fail
        go_roundw
        case rel =>
          have hf := fin.out
          refine ⟨i + 1, (dg xs i + dg ys i + cy) / 65536, _, by go_num, int_eq ?_, by rw [List.length_append, HI.out]; rfl, low_snoc HL.out (Nat.mod_lt _ (by omega)), hf.1, hf.2.2.2, hf.2.1, hf.2.2.1, by omega, plus_step HI.out HV.out, HO1.out, HB1.out⟩
          omega
        case measure => simp [intOf]; omega
    · have hn : ¬ i < xs.length ∧ ¬ i < ys.length ∧ ¬ 0 < cy := by omega
      obtain ⟨h1, h2, h3⟩ := hn
      have HG := Lib.hid hgo; clear hgo
      go_wp2
      go_ret
      have e := HV.out
      rw [vd_end (by omega), vd_end (by omega), show cy = 0 from by omega, Nat.mul_zero] at e
      obtain ⟨C, k, hv, hk, hk', hr⟩ := own_rd HO.out HL.out
      exact ⟨C, zs, k, ret1_eq hv, hk, hk', hr, by rw [HI.out]; exact him, e, by rw [HI.out]; exact HP.out, HB.out⟩

set_option maxHeartbeats 1600000 in
theorem minus_any (A B : Option Addr) (xs ys : List Nat) (c d : Nat) (w : World) (ha : Rd w A xs) (hb : Rd w B ys) (hla : xs.length ≤ 5000) (hge : nv ys ≤ nv xs) :
    Calls Tryz.prog 178 #[.slice A xs.length c, .slice B ys.length d] w fun e w' => ∃ (C : Option Addr) (zs : List Nat) (k : Nat), e = .returned (.slice C zs.length k) ∧ zs.length ≤ k ∧ k ≤ maxLen ∧ Rd w' C zs ∧
      zs.length ≤ xs.length ∧ nv zs = nv xs - nv ys ∧ trim zs ∧ Below w.heap.size w w' := by
  have HG := Lib.hid hge; clear hge
  go_enter Tryz.func178, Tryz.ntmps178
  go_wp2
  go_loopw [5, 6, 7] (fun s t u wr => ∃ (i cy : Nat) (zs : List Nat), u = .int .i64 i ∧ t = .int .u64 cy ∧ zs.length = i ∧ low zs ∧ cy ≤ 1 ∧ i ≤ xs.length ∧
      nv zs + 65536 ^ i * vd xs i + nv ys = nv xs + 65536 ^ i * (vd ys i + cy) ∧ Own wr w.heap.size s zs ∧ Below w.heap.size w wr) (fun _ _ u _ => xs.length - (intOf u).toNat)
  case atStart => exact ⟨0, 0, [], rfl, rfl, rfl, low_nil, by omega, by omega, by simp [nv, vd_zero], World.ownsRow_nil w _ _ _, Below.refl _ _⟩
  case round =>
    obtain ⟨i, cy, zs, rfl, rfl, hi, hlow, hcy, him, hv, hown, hbw⟩ := hrel
    have HV := Lib.hid hv; have HI := Lib.hid hi; have HO := Lib.hid hown; have HB := Lib.hid hbw; have HL := Lib.hid hlow
    clear hv hi hown hbw hlow
    have ra := Lib.hid (ha.below HB.out); have rb := Lib.hid (hb.below HB.out)
    have l1 := dg_low ha.1 i; have l2 := dg_low hb.1 i
    by_cases h1 : i < xs.length
    · go_wp2_with fail
      refine (digit_any _ _ _ _ _ ra.out).mono ?_
      rintro e w' ⟨rfl, rfl⟩
      go_wp2_with fail
      refine (digit_any _ _ _ _ _ rb.out).mono ?_
      rintro e w' ⟨rfl, rfl⟩
      go_wp2_with (at_builtin; refine app_digit _ _ w.heap.size _ zs _ ((65536 + dg xs i - dg ys i - cy) % 65536) HO.out ?hd ?hlen ?hbase rfl rfl rfl rfl ?_)
      case hd => omega
      case hlen => have := HI.out; omega
      case hbase => exact HB.out.size
      rename_i W0
      intro v' w1 hown1 hb1
      have HO1 := Lib.hid hown1; have HB1 := Lib.hid (HB.out.trans hb1); clear hown1 hb1
      go_wp2_with fail
      go_roundw
      case rel =>
        refine ⟨i + 1, (1 - (65536 + dg xs i - dg ys i - cy) / 65536), _, by go_num, int_eq ?_, by rw [List.length_append, HI.out]; rfl, low_snoc HL.out (Nat.mod_lt _ (by omega)), by omega, h1, minus_step HI.out ha.1 hb.1 hcy HV.out, HO1.out, HB1.out⟩
        omega
      case measure => simp [intOf]; omega
    · have hi' : i = xs.length := by omega
      have HI2 := Lib.hid hi'; clear hi'
      obtain ⟨C, k, hv, hk, hk', hr⟩ := own_rd HO.out HL.out
      subst hv
      have hz : zs.length ≤ 10000 := by have := HI.out; omega
      go_wp2_with fail
      refine (cut_any _ _ _ _ hr hk hk').mono ?_
      rintro e w' ⟨ds, rfl, rfl, h3, h4, h5, h6⟩
      have H4 := Lib.hid h4; have H5 := Lib.hid h5; clear h4 h5
      go_wp2_with fail
      go_ret
      have e := HV.out
      rw [HI2.out] at e
      have := minus_end HL.out (by rw [HI.out, HI2.out]) HG.out e
      exact ⟨C, ds, k, rfl, by have := H4.out; omega, hk', h3, by have := H4.out; have := HI.out; omega, by rw [H5.out, this], h6, HB.out⟩
end Go.Proofs.YtdonicaiimeleaaGreatDoor
