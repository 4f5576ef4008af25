/- A Big's value written out; a box that holds a Big. -/
import Derived.Test.YtbffpallhofonaaBigD
namespace Go.Proofs.Ytbffpallhofonaa
open Go.RowKit
set_option linter.unusedVariables false

/-- A Big's value, written out. -/
theorem BV.open_ {w : World} {v : Value} {z : Int} {k : Nat} (h : BV w v z k) : ∃ (b : Bool) (A : Option Addr) (n c : Nat), v = .agg #[.bool b, .slice A n c] := by
  obtain ⟨A, ds, c, rfl, _⟩ := h
  exact ⟨_, _, _, _, rfl⟩

/-- A Big is kept over stores over a Bool and a slice. -/
theorem BV.store2 {w : World} {v : Value} {z : Int} {k : Nat} (h : BV w v z k) {p q : Addr} {b : Bool} {C : Option Addr} {n c : Nat} (hp : w.cell? p = some (.bool b)) (hq : w.cell? q = some (.slice C n c)) (x y : Value) :
    BV ((w.setCell p x).setCell q y) v z k := by
  obtain ⟨A, ds, c, h1, h2, h3⟩ := h
  exact ⟨A, ds, c, h1, h2.store2 hp hq x y, h3⟩

/-- The block p is a box that holds the Big z, of at most k digits. -/
def Bx (w : World) (p : Nat) (z : Int) (k : Nat) : Prop :=
  ∃ (b : Bool) (A : Option Addr) (n c : Nat), w.heap[p]? = some (.cells #[.bool b, .slice A n c] 76 (0, 0)) ∧ BV w (.agg #[.bool b, .slice A n c]) z k
theorem Bx.below {w w' : World} {p : Nat} {z : Int} {k : Nat} (h : Bx w p z k) (hb : Below w.heap.size w w') : Bx w' p z k := by
  obtain ⟨b, A, n, c, h1, h2⟩ := h
  exact ⟨b, A, n, c, (hb.block _ (whole_lt h1)).trans h1, h2.below hb⟩
theorem Bx.new {w : World} {b : Bool} {A : Option Addr} {n c : Nat} {z : Int} {k : Nat} (h : BV w (.agg #[.bool b, .slice A n c]) z k) :
    Bx (w.alloc (.cells #[.bool b, .slice A n c] 76)) w.heap.size z k :=
  ⟨b, A, n, c, heap_alloc_new _ _, h.below ((Below.refl _ _).alloc (Nat.le_refl _) _)⟩
theorem wset13 {w : World} {g : Nat} {cs : Array Value} {t : TypeId} (h : w.heap[g]? = some (.cells cs t (0, 0))) (i : Nat) (u : Value) : (w.setCell ⟨g, i, none⟩ u).heap[g]? = some (.cells (cs.setIfInBounds i u) t (0, 0)) := by
  simp [World.setCell, Array.getElem?_modify, h]
theorem Bx.put {w : World} {p : Nat} {y z : Int} {j k : Nat} {b : Bool} {A : Option Addr} {n c : Nat} (h : Bx w p y j) (hv : BV w (.agg #[.bool b, .slice A n c]) z k) :
    Bx ((w.setCell ⟨p, 0, none⟩ (.bool b)).setCell ⟨p, 1, none⟩ (.slice A n c)) p z k := by
  obtain ⟨b', A', n', c', h1, h2⟩ := h
  exact ⟨b, A, n, c, wset13 (wset13 h1 0 _) 1 _, hv.store2 (whole_cell h1 0) (whole_cell h1 1) _ _⟩
theorem Bx.cells {w : World} {p : Nat} {z : Int} {k : Nat} (h : Bx w p z k) : ∃ (b : Bool) (A : Option Addr) (n c : Nat), w.cell? ⟨p, 0, none⟩ = some (.bool b) ∧ w.cell? ⟨p, 1, none⟩ = some (.slice A n c) ∧ w.frozen? ⟨p, 0, none⟩ = false ∧ w.frozen? ⟨p, 1, none⟩ = false ∧ BV w (.agg #[.bool b, .slice A n c]) z k := by
  obtain ⟨b, A, n, c, h1, h2⟩ := h
  exact ⟨b, A, n, c, whole_cell h1 0, whole_cell h1 1, whole_free h1 0, whole_free h1 1, h2⟩
theorem set_off {w : World} {p q i : Nat} {u : Value} (h : p ≠ q) : (w.setCell ⟨p, i, none⟩ u).heap[q]? = w.heap[q]? := by
  simp [World.setCell, Array.getElem?_modify, h]
theorem Bx.off {w : World} {p q : Nat} {y z : Int} {j k : Nat} {b : Bool} {A : Option Addr} {n c : Nat} (h : Bx w p y j) (ho : Bx w q z k) (hpq : p ≠ q) :
    Bx ((w.setCell ⟨p, 0, none⟩ (.bool b)).setCell ⟨p, 1, none⟩ (.slice A n c)) q z k := by
  obtain ⟨b', A', n', c', h1, h2⟩ := h
  obtain ⟨b4, A4, n4, c4, o1, o2⟩ := ho
  exact ⟨b4, A4, n4, c4, by rw [set_off hpq, set_off hpq]; exact o1, o2.store2 (whole_cell h1 0) (whole_cell h1 1) _ _⟩
theorem BV.nil (w : World) : BV w (.agg #[.bool false, .slice none 0 0]) 0 0 := ⟨none, [], 0, rfl, ⟨low_nil, .inl rfl⟩, Nat.le_refl _, by decide, Nat.le_refl _, rfl, fun h => absurd h (Nat.lt_irrefl _)⟩
theorem BV.le {w : World} {v : Value} {z : Int} {j k : Nat} (h : BV w v z j) (hk : j ≤ k) : BV w v z k := by
  obtain ⟨A, ds, c, h1, h2, h3, h4, h5, h6⟩ := h
  exact ⟨A, ds, c, h1, h2, h3, h4, by omega, h6⟩
theorem Bx.lt {w : World} {p : Nat} {z : Int} {k : Nat} (h : Bx w p z k) : p < w.heap.size := by
  obtain ⟨b, A, n, c, h1, h2⟩ := h
  exact whole_lt h1
theorem bel_al (w : World) (X : Array Value) (T : TypeId) : Below w.heap.size w (w.alloc (.cells X T)) := (Below.refl _ _).alloc (Nat.le_refl _) _
end Go.Proofs.Ytbffpallhofonaa
