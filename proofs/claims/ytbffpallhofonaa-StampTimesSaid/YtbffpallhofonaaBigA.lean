/- Slices that read as rows of digits; digit, cut, less. -/
import Derived.Test.YtbffpallhofonaaErr
import Derived.Test.YtbffpallhofonaaBigM
import Derived.Outline
import Derived.Deep.Draws
import Derived.LoopTactic
import Derived.Laws.OwnMore
import Derived.Maps.AppendAt
namespace Go.Proofs.Ytbffpallhofonaa
open Go.RowKit

/-- A block that is known whole. -/
theorem whole_cell {w : World} {g : Nat} {cs : Array Value} {t : TypeId} (h : w.heap[g]? = some (.cells cs t (0, 0))) (i : Nat) : w.cell? ⟨g, i, none⟩ = cs[i]? := by simp [World.cell?, h]
theorem whole_free {w : World} {g : Nat} {cs : Array Value} {t : TypeId} (h : w.heap[g]? = some (.cells cs t (0, 0))) (i : Nat) : w.frozen? ⟨g, i, none⟩ = false := by simp [World.frozen?, h]
theorem whole_lt {w : World} {g : Nat} {o : Obj} (h : w.heap[g]? = some o) : g < w.heap.size := by
  rcases Nat.lt_or_ge g w.heap.size with hlt | hge
  · exact hlt
  · rw [Array.getElem?_eq_none hge] at h; cases h
theorem new_whole {w w' : World} {cs : Array Value} {t : TypeId} (h : Below (w.heap.size + 1) (w.alloc (.cells cs t)) w') : w'.heap[w.heap.size]? = some (.cells cs t (0, 0)) := by
  rw [h.block _ (by omega)]; exact heap_alloc_new w _

/-- The slice at A reads as the digits ds. -/
def Rd (w : World) (A : Option Addr) (ds : List Nat) : Prop :=
  low ds ∧ (ds = [] ∨ ∃ b : Nat, A = some ⟨b, 0, none⟩ ∧ b < w.heap.size ∧ ∀ j, j < ds.length → w.cell? ⟨b, j, none⟩ = some (.int .u64 (dg ds j)))

theorem Rd.below {w w' : World} {A : Option Addr} {ds : List Nat} (h : Rd w A ds) (hb : Below w.heap.size w w') : Rd w' A ds := by
  refine ⟨h.1, h.2.imp id ?_⟩
  rintro ⟨b, hA, hlt, hc⟩
  exact ⟨b, hA, Nat.lt_of_lt_of_le hlt hb.size, fun j hj => (hb.cell (p := ⟨b, j, none⟩) hlt).trans (hc j hj)⟩
theorem Rd.drewN {w : World} {A : Option Addr} {ds : List Nat} (h : Rd w A ds) (n : Nat) : Rd (w.drewN n) A ds := h
theorem Rd.cell {w : World} {A : Option Addr} {ds : List Nat} (h : Rd w A ds) {i : Nat} (hi : i < ds.length) : ∃ b, A = some ⟨b, 0, none⟩ ∧ b < w.heap.size ∧ w.cell? ⟨b, i, none⟩ = some (.int .u64 (dg ds i)) := by
  rcases h.2 with rfl | ⟨b, hA, hlt, hc⟩
  · simp at hi
  · exact ⟨b, hA, hlt, hc i hi⟩
theorem Rd.take_ {w : World} {A : Option Addr} {ds : List Nat} (h : Rd w A ds) (n : Nat) (hn : n ≤ ds.length) : Rd w A (ds.take n) := by
  refine ⟨low_take h.1 n, h.2.imp (fun e => by rw [e]; simp) ?_⟩
  rintro ⟨b, hA, hlt, hc⟩
  refine ⟨b, hA, hlt, fun j hj => ?_⟩
  rw [List.length_take] at hj
  rw [dg_take (by omega)]
  exact hc j (by omega)
/-- Stores over a Bool and over a slice change no digits. -/
theorem Rd.store2 {w : World} {A : Option Addr} {ds : List Nat} (h : Rd w A ds) {p q : Addr} {b : Bool} {C : Option Addr} {n c : Nat} (hp : w.cell? p = some (.bool b)) (hq : w.cell? q = some (.slice C n c)) (u v : Value) :
    Rd ((w.setCell p u).setCell q v) A ds := by
  refine ⟨h.1, h.2.imp id ?_⟩
  rintro ⟨g, hA, hlt, hc⟩
  refine ⟨g, hA, by simpa [World.setCell] using hlt, fun j hj => ?_⟩
  have e := hc j hj
  rw [World.cell?_setCell_other _ _ _ _ (fun k => by rw [← k, hq] at e; cases e), World.cell?_setCell_other _ _ _ _ (fun k => by rw [← k, hp] at e; cases e)]
  exact e

theorem digit_any (A : Option Addr) (ds : List Nat) (c i : Nat) (w : World) (h : Rd w A ds) :
    Calls Try.prog 75 #[.slice A ds.length c, .int .i64 i] w fun e w' => e = .returned (.int .u64 (dg ds i)) ∧ w = w' := by
  by_cases hi : i < ds.length
  · obtain ⟨b, rfl, hlt, hc⟩ := h.cell hi
    go_enter Try.func75, Try.ntmps75
    go_wp2
    go_ret
    exact ⟨rfl, rfl⟩
  · have hd := Lib.hid (dg_end (ds := ds) (i := i) (by omega))
    go_enter Try.func75, Try.ntmps75
    go_wp2
    go_ret
    exact ⟨ret1_eq (int_eq (by rw [hd.out]; rfl)), rfl⟩

/-- A slice's length: for measures. -/
def slen : Value → Nat | .slice _ n _ => n | _ => 0
/-- Is a row without a 0 at its end? -/
def trim (ds : List Nat) : Prop := 0 < ds.length → 0 < nv ds

set_option maxHeartbeats 800000 in
theorem cut_any (A : Option Addr) (ds : List Nat) (c : Nat) (w : World) (h : Rd w A ds) (hc : ds.length ≤ c) (hc' : c ≤ maxLen) :
    Calls Try.prog 76 #[.slice A ds.length c] w fun e w' => ∃ ds' : List Nat, e = .returned (.slice A ds'.length c) ∧ w = w' ∧ Rd w A ds' ∧ ds'.length ≤ ds.length ∧ nv ds' = nv ds ∧ trim ds' := by
  unfold maxLen at hc'
  go_enter Try.func76, Try.ntmps76
  go_wp2
  go_loop [0] (fun s => ∃ n : Nat, n ≤ ds.length ∧ s = .slice A n c ∧ nv (ds.take n) = nv ds) slen
  case atStart => exact ⟨ds.length, Nat.le_refl _, rfl, by rw [List.take_of_length_le (Nat.le_refl _)]⟩
  case round =>
    obtain ⟨n, hn, rfl, hv⟩ := hrel
    have HV := Lib.hid hv; clear hv
    cases n with
    | zero =>
      go_wp2
      go_ret
      exact ⟨[], rfl, rfl, ⟨low_nil, .inl rfl⟩, Nat.zero_le _, by simpa using HV.out, fun h => absurd h (by simp)⟩
    | succ n =>
      obtain ⟨b, rfl, hlt, hcell⟩ := h.cell (i := n) (by omega)
      by_cases hd : dg ds n = 0
      · have hd' : ((dg ds n : Int) == 0) = true := by simp [hd]
        have HD := Lib.hid hd; clear hd
        go_wp2
        go_round
        case rel =>
          refine ⟨n, by omega, rfl, ?_⟩
          have := nv_cut (ds := ds.take (n + 1)) (n := n) (by rw [List.length_take]; omega) (by rw [dg_take (by omega)]; exact HD.out)
          rw [List.take_take, Nat.min_eq_left (by omega)] at this
          rw [this]; exact HV.out
        case measure => simp [slen]
      · have hd' : ((dg ds n : Int) == 0) = false := by simp [hd]
        have HD := Lib.hid hd; clear hd
        go_wp2
        go_ret
        have e : (ds.take (n + 1)).length = n + 1 := by rw [List.length_take, Nat.min_eq_left (by omega)]
        refine ⟨ds.take (n + 1), by rw [e]; rfl, rfl, h.take_ _ (by omega), by rw [List.length_take]; omega, HV.out, fun _ => ?_⟩
        exact nv_pos_last (n := n) (by rw [dg_take (by omega)]; exact HD.out)

theorem slot_start {x y : List Nat} {n : Nat} (hx : x.length ≤ n) (hy : y.length ≤ n) :
    (Value.int .i64 ((n : Int) - 1) = .int .i64 (-1) ∧ vd x 0 = vd y 0) ∨ ∃ m : Nat, Value.int .i64 ((n : Int) - 1) = .int .i64 m ∧ m < n ∧ vd x (m + 1) = vd y (m + 1) := by
  cases n with
  | zero => exact .inl ⟨rfl, by rw [vd_end hx, vd_end hy]⟩
  | succ m => exact .inr ⟨m, int_eq (by omega), by omega, by rw [vd_end hx, vd_end hy]⟩

set_option maxHeartbeats 800000 in
theorem less_any (A B : Option Addr) (xs ys : List Nat) (c d : Nat) (w : World) (ha : Rd w A xs) (hb : Rd w B ys) (hla : xs.length ≤ 10000) (hlb : ys.length ≤ 10000) :
    Calls Try.prog 60 #[.slice A xs.length c, .slice B ys.length d] w fun e w' => e = .returned (.bool (decide (nv xs < nv ys))) ∧ w = w' := by
  have s1 : xs.length < ys.length → _ := fun h => Lib.hid (slot_start (x := xs) (y := ys) (n := ys.length) (by omega) (by omega))
  have s2 : ¬ xs.length < ys.length → _ := fun h => Lib.hid (slot_start (x := xs) (y := ys) (n := xs.length) (by omega) (by omega))
  go_enter Try.func60, Try.ntmps60
  go_wp2
  all_goals
    go_loop [5] (fun s => (s = .int .i64 (-1) ∧ vd xs 0 = vd ys 0) ∨ ∃ m : Nat, s = .int .i64 m ∧ m < 10000 ∧ vd xs (m + 1) = vd ys (m + 1)) (fun s => (intOf s + 1).toNat)
    case atStart => first
      | exact (s1 (by assumption)).out.imp id fun ⟨m, h1, h2, h3⟩ => ⟨m, h1, by omega, h3⟩
      | exact (s2 (by assumption)).out.imp id fun ⟨m, h1, h2, h3⟩ => ⟨m, h1, by omega, h3⟩
    case round =>
      clear s1 s2
      rcases hrel with ⟨rfl, hv⟩ | ⟨m, rfl, hm, hv⟩
      · have HV := Lib.hid hv; clear hv
        go_wp2
        go_ret
        exact ⟨ret1_eq (bool_eq (by have := HV.out; rw [vd_zero, vd_zero] at this; simp [this])), rfl⟩
      · have HV := Lib.hid hv; clear hv
        have v1 := Lib.hid (vd_step xs m); have v2 := Lib.hid (vd_step ys m)
        go_wp2_with fail
        refine (digit_any _ _ _ _ _ ha).mono ?_
        rintro e w' ⟨rfl, rfl⟩
        go_wp2_with fail
        refine (digit_any _ _ _ _ _ hb).mono ?_
        rintro e w' ⟨rfl, rfl⟩
        by_cases hd : dg xs m = dg ys m
        · have hd' : ((dg xs m : Int) != (dg ys m : Int)) = false := by simp [hd]
          have HD := Lib.hid hd; clear hd
          go_wp2_with fail
          go_round
          case rel =>
            cases m with
            | zero => exact .inl ⟨rfl, by rw [v1.out, v2.out, HV.out, HD.out]⟩
            | succ m => exact .inr ⟨m, int_eq (by omega), by omega, by rw [v1.out, v2.out, HV.out, HD.out]⟩
          case measure => simp [intOf]
        · have hd' : ((dg xs m : Int) != (dg ys m : Int)) = true := by simp; omega
          have HD := Lib.hid hd; clear hd
          go_wp2_with fail
          refine (digit_any _ _ _ _ _ ha).mono ?_
          rintro e w' ⟨rfl, rfl⟩
          go_wp2_with fail
          refine (digit_any _ _ _ _ _ hb).mono ?_
          rintro e w' ⟨rfl, rfl⟩
          go_wp2_with fail
          go_ret
          refine ⟨ret1_eq (bool_eq ?_), rfl⟩
          have h1 := less_from ha.1 (b := ys) m
          have h2 := less_from hb.1 (b := xs) m
          have := v1.out; have := v2.out; have := HV.out; have := HD.out
          by_cases hlt : dg xs m < dg ys m
          · have h3 := h1 (by omega)
            rw [decide_eq_true h3, decide_eq_true (by omega)]
          · have h3 := h2 (by omega)
            rw [decide_eq_false (by omega), decide_eq_false (by omega)]
end Go.Proofs.Ytbffpallhofonaa
