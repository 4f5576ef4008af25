/- Merged: EraC. -/
import Derived.Test.YtjbbnlcghnjlfaaDoorGGpsWeeks6
import Derived.Test.YtjbbnlcghnjlfaaDoorGGpsWeeks28
import Derived.Test.YtjbbnlcghnjlfaaDoorGGpsWeeks20
import Derived.Deep.OwnRows
import Derived.Test.YtjbbnlcghnjlfaaDoorGGpsWeeks15
import Derived.Test.YtjbbnlcghnjlfaaDoorGGpsWeeks38
import Derived.Test.YtjbbnlcghnjlfaaDoorGGpsWeeks37
namespace Go.Proofs.YtjbbnlcghnjlfaaDoor
open Go.RowKit
set_option linter.unusedVariables false
set_option linter.unusedSimpArgs false

/-- The block p is a box that holds the Big z, of at most k digits. -/
def Bx (w : World) (p : Nat) (z : Int) (k : Nat) : Prop :=
  ∃ (b : Bool) (A : Option Addr) (n c : Nat), w.heap[p]? = some (.cells #[.bool b, .slice A n c] 49 (0, 0)) ∧ BV w (.agg #[.bool b, .slice A n c]) z k
theorem Bx.below {w w' : World} {p : Nat} {z : Int} {k : Nat} (h : Bx w p z k) (hb : Below w.heap.size w w') : Bx w' p z k := by
  obtain ⟨b, A, n, c, h1, h2⟩ := h
  exact ⟨b, A, n, c, (hb.block _ (whole_lt h1)).trans h1, h2.below hb⟩
theorem Bx.new {w : World} {b : Bool} {A : Option Addr} {n c : Nat} {z : Int} {k : Nat} (h : BV w (.agg #[.bool b, .slice A n c]) z k) :
    Bx (w.alloc (.cells #[.bool b, .slice A n c] 49)) w.heap.size z k :=
  ⟨b, A, n, c, heap_alloc_new _ _, h.below ((Below.refl _ _).alloc (Nat.le_refl _) _)⟩
theorem wset13 {w : World} {g : Nat} {cs : Array Value} {t : TypeId} (h : w.heap[g]? = some (.cells cs t (0, 0))) (i : Nat) (u : Value) : (w.setCell ⟨g, i, none⟩ u).heap[g]? = some (.cells (cs.setIfInBounds i u) t (0, 0)) := by
  simp [World.setCell, Array.getElem?_modify, h]
theorem Bx.put {w : World} {p : Nat} {y z : Int} {j k : Nat} {b : Bool} {A : Option Addr} {n c : Nat} (h : Bx w p y j) (hv : BV w (.agg #[.bool b, .slice A n c]) z k) :
    Bx ((w.setCell ⟨p, 0, none⟩ (.bool b)).setCell ⟨p, 1, none⟩ (.slice A n c)) p z k := by
  obtain ⟨b', A', n', c', h1, h2⟩ := h
  exact ⟨b, A, n, c, wset13 (wset13 h1 0 _) 1 _, hv.store2 (whole_cell h1 0) (whole_cell h1 1) _ _⟩
theorem Bx.cells {w : World} {p : Nat} {z : Int} {k : Nat} (h : Bx w p z k) : ∃ (b : Bool) (A : Option Addr) (n c : Nat), w.cell? ⟨p, 0, none⟩ = some (.bool b) ∧ w.cell? ⟨p, 1, none⟩ = some (.slice A n c) ∧ w.frozen? ⟨p, 0, none⟩ = false ∧ w.frozen? ⟨p, 1, none⟩ = false ∧ BV w (.agg #[.bool b, .slice A n c]) z k := by
  obtain ⟨b, A, n, c, h1, h2⟩ := h
  exact ⟨b, A, n, c, whole_cell h1 0, whole_cell h1 1, whole_free h1 0, whole_free h1 1, h2⟩
theorem set_off {w : World} {p q i : Nat} {u : Value} (h : p ≠ q) : (w.setCell ⟨p, i, none⟩ u).heap[q]? = w.heap[q]? := by
  simp [World.setCell, Array.getElem?_modify, h]
theorem Bx.off {w : World} {p q : Nat} {y z : Int} {j k : Nat} {b : Bool} {A : Option Addr} {n c : Nat} (h : Bx w p y j) (ho : Bx w q z k) (hpq : p ≠ q) :
    Bx ((w.setCell ⟨p, 0, none⟩ (.bool b)).setCell ⟨p, 1, none⟩ (.slice A n c)) q z k := by
  obtain ⟨b', A', n', c', h1, h2⟩ := h
  obtain ⟨b4, A4, n4, c4, o1, o2⟩ := ho
  exact ⟨b4, A4, n4, c4, by rw [set_off hpq, set_off hpq]; exact o1, o2.store2 (whole_cell h1 0) (whole_cell h1 1) _ _⟩
theorem BV.nil (w : World) : BV w (.agg #[.bool false, .slice none 0 0]) 0 0 := ⟨none, [], 0, rfl, ⟨low_nil, .inl rfl⟩, Nat.le_refl _, by decide, Nat.le_refl _, rfl, fun h => absurd h (Nat.lt_irrefl _)⟩
theorem Bx.lt {w : World} {p : Nat} {z : Int} {k : Nat} (h : Bx w p z k) : p < w.heap.size := by
  obtain ⟨b, A, n, c, h1, h2⟩ := h
  exact whole_lt h1
theorem bel_al (w : World) (X : Array Value) (T : TypeId) : Below w.heap.size w (w.alloc (.cells X T)) := (Below.refl _ _).alloc (Nat.le_refl _) _

theorem emod_is {t p : Int} (hp : 0 < p) : t % p = if t.tmod p < 0 then t.tmod p + p else t.tmod p := by
  have h1 := tdm t p
  have h2 := tmod_sgn t p (by omega)
  split
  · rw [← Int.emod_emod_of_dvd t (Int.dvd_refl p)]
    have e : t = (t.tmod p + p) + p * (t.tdiv p - 1) := by rw [Int.mul_sub]; omega
    conv => lhs; rw [e]
    rw [Int.emod_emod_of_dvd _ (Int.dvd_refl p), Int.add_mul_emod_self_left, Int.emod_eq_of_lt (by omega) (by have := h2.2.2.1 hp; omega)]
  · have e : t = t.tmod p + p * t.tdiv p := by omega
    conv => lhs; rw [e]
    rw [Int.add_mul_emod_self_left, Int.emod_eq_of_lt (by omega) (by have := h2.2.2.1 hp; omega)]

set_option maxHeartbeats 1600000 in
theorem rfold_any (t : Int) (n : Nat) (w : World) (ht : fits t) (hn : n ≤ 62) :
    Calls Tryd.prog 14 #[.int .i64 t, .int .i64 n] w fun e w' => e = .returned (.int .i64 (fo t n)) ∧ w = w' := by
  have HT := Lib.hid ht
  clear ht
  go_enter Tryd.func14, Tryd.ntmps14
  go_wp2_with fail
  go_loopg [5, 6] n (fun g s5 s6 wr => ∃ i : Nat, s5 = .int .i64 (pw i) ∧ s6 = .int .i64 i ∧ i ≤ n ∧ g = n - i ∧ w = wr)
  case atStart => exact ⟨0, rfl, rfl, by omega, rfl, rfl⟩
  case round =>
    obtain ⟨i, rfl, rfl, hi, rfl, rfl⟩ := hrel
    by_cases hlt : i < n
    · have hltz : (i : Int) < (n : Int) := by omega
      have h62 := pw_62 (n := i + 1) (by omega)
      have h0 := pw_pos i
      have hs := pw_succ i
      have e1 : IntKind.i64.wrap (pw i * 2) = pw (i + 1) := by rw [IntWalk.i64_in _ (by omega)]; omega
      clear hs h62
      go_wp2_with fail
      go_roundg (n - (i + 1))
      case measure => omega
      case rel => exact ⟨i + 1, rfl, by go_num, hlt, rfl, rfl⟩
    · obtain rfl : i = n := by omega
      have hp := pw_pos i
      have h62 := pw_62 hn
      have hz : (pw i == 0) = false := by simp; omega
      have hs := tmod_sgn t (pw i) (by omega)
      have he := emod_is (t := t) hp
      have e1 : fo t i = if t.tmod (pw i) < 0 then t.tmod (pw i) + pw i else t.tmod (pw i) := he
      by_cases hr : t.tmod (pw i) < 0
      · rw [if_pos hr] at e1
        have E1 := Lib.hid e1
        have hr' : decide (t.tmod (pw i) < 0) = true := decide_eq_true hr
        have e2 : IntKind.i64.wrap (t.tmod (pw i) + pw i) = t.tmod (pw i) + pw i := IntWalk.i64_in _ (by have := hs.2.2.1 hp; omega)
        clear e1 hs he h62
        go_wp2_with fail
        go_ret
        exact ⟨ret1_eq (int_eq E1.out.symm), rfl⟩
      · rw [if_neg hr] at e1
        have E1 := Lib.hid e1
        have hr' : decide (t.tmod (pw i) < 0) = false := decide_eq_false hr
        clear e1 hs he h62
        go_wp2_with fail
        go_ret
        exact ⟨ret1_eq (int_eq E1.out.symm), rfl⟩
end Go.Proofs.YtjbbnlcghnjlfaaDoor
