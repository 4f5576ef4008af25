/- Merged: ScanM. -/
import Derived.Test.YtkhcneacjnpcnaaGreatDoorGPosixChecks7
import Derived.Test.YtkhcneacjnpcnaaGreatDoorGPosixChecks9
import Derived.Test.YtkhcneacjnpcnaaGreatDoorGPosixChecks10
namespace Go.Proofs.YtkhcneacjnpcnaaGreatDoor
open Go.RowKit
set_option linter.unusedVariables false

/-! ### lists -/
/-- What is left behind a place, if there is no error. -/
def rs (l : List UInt8) (k : Nat) (e : Int) : List UInt8 := if e = 0 then l.drop k else []
theorem rs_zero (l : List UInt8) (k : Nat) : rs l k 0 = l.drop k := by unfold rs; rw [if_pos rfl]
theorem rs_bad (l : List UInt8) (k : Nat) {e : Int} (h : e ≠ 0) : rs l k e = [] := by unfold rs; rw [if_neg h]
theorem rs_len (l : List UInt8) (k : Nat) (e : Int) : (rs l k e).length = if e = 0 then l.length - k else 0 := by
  unfold rs; split <;> simp
theorem rs_le (l : List UInt8) (k : Nat) (e : Int) : (rs l k e).length ≤ l.length - k := by rw [rs_len]; split <;> omega
/-- A byte, a letter as a small one. -/
def lw (b : UInt8) : Int := if 65 ≤ (b.toNat : Int) ∧ (b.toNat : Int) ≤ 90 then (b.toNat : Int) + 32 else (b.toNat : Int)
def al (a b : UInt8) : Bool := lw a == lw b
/-- Does a text begin with what is alike? -/
def fmB : List UInt8 → List UInt8 → Bool
  | _, [] => true
  | [], _ :: _ => false
  | a :: r, b :: w => al a b && fmB r w
theorem fmB_nil (r : List UInt8) : fmB r [] = true := by cases r <;> rfl
theorem fmB_le : ∀ {r w : List UInt8}, fmB r w = true → w.length ≤ r.length
  | _, [], _ => by simp
  | [], _ :: _, h => by cases h
  | a :: r, b :: w, h => by
    have := fmB_le (r := r) (w := w) (by unfold fmB at h; simp at h; exact h.2)
    simp; omega
theorem fmB_step {r w : List UInt8} {j : Nat} (h1 : j < r.length) (h2 : j < w.length) : fmB (r.drop j) (w.drop j) = (al r[j] w[j] && fmB (r.drop (j + 1)) (w.drop (j + 1))) := by
  rw [List.drop_eq_getElem_cons h1, List.drop_eq_getElem_cons h2]; rfl
theorem fmB_end {r w : List UInt8} {j : Nat} (h : w.length ≤ j) : fmB (r.drop j) (w.drop j) = true := by
  rw [List.drop_eq_nil_of_le h]; exact fmB_nil _
/-- How many bytes at the beginning are such ones. -/
def tw (p : UInt8 → Bool) : List UInt8 → Nat
  | [] => 0
  | b :: r => if p b then tw p r + 1 else 0
theorem tw_step {p : UInt8 → Bool} {l : List UInt8} {i : Nat} (h : i < l.length) : tw p (l.drop i) = if p l[i] then tw p (l.drop (i + 1)) + 1 else 0 := by
  rw [List.drop_eq_getElem_cons h]; rfl
theorem tw_end {p : UInt8 → Bool} {l : List UInt8} {i : Nat} (h : l.length ≤ i) : tw p (l.drop i) = 0 := by rw [List.drop_eq_nil_of_le h]; rfl

/-! ### a scanner's block -/
/-- The block g holds a scanner of the text v, at k, with the error e. -/
def Sk (T : TypeId) (w : World) (g : Nat) (v : Value) (k : Nat) (e : Int) : Prop := w.heap[g]? = some (.cells #[v, .int .i64 (k : Int), ev e] T (0, 0))
theorem Sk.lt {T : TypeId} {w : World} {g : Nat} {v : Value} {k : Nat} {e : Int} (h : Sk T w g v k e) : g < w.heap.size := (Array.getElem?_eq_some_iff.1 h).1
theorem Sk.c0 {T : TypeId} {w : World} {g : Nat} {v : Value} {k : Nat} {e : Int} (h : Sk T w g v k e) : w.cell? ⟨g, 0, none⟩ = some v := by unfold Sk at h; simp [World.cell?, h]
theorem Sk.c1 {T : TypeId} {w : World} {g : Nat} {v : Value} {k : Nat} {e : Int} (h : Sk T w g v k e) : w.cell? ⟨g, 1, none⟩ = some (.int .i64 (k : Int)) := by unfold Sk at h; simp [World.cell?, h]
theorem Sk.c2 {T : TypeId} {w : World} {g : Nat} {v : Value} {k : Nat} {e : Int} (h : Sk T w g v k e) : w.cell? ⟨g, 2, none⟩ = some (ev e) := by unfold Sk at h; simp [World.cell?, h]
theorem Sk.free {T : TypeId} {w : World} {g : Nat} {v : Value} {k : Nat} {e : Int} (h : Sk T w g v k e) (i : Nat) : w.frozen? ⟨g, i, none⟩ = false := by unfold Sk at h; simp [World.frozen?, h]
theorem Sk.drewN {T : TypeId} {w : World} {g : Nat} {v : Value} {k : Nat} {e : Int} (h : Sk T w g v k e) (n : Nat) : Sk T (w.drewN n) g v k e := h
theorem Sk.kept {T : TypeId} {w w' : World} {g : Nat} {v : Value} {k : Nat} {e : Int} {row : Option Nat} (h : Sk T w g v k e) (hg : w.grownBy w' row) (hne : some g ≠ row) : Sk T w' g v k e := (hg.block g h.lt hne).trans h
theorem Sk.below {T : TypeId} {w w' : World} {g B : Nat} {v : Value} {k : Nat} {e : Int} (h : Sk T w g v k e) (hb : Below B w w') (hB : g < B) : Sk T w' g v k e := (hb.block g hB).trans h
theorem Sk.alloc {T : TypeId} {w : World} {g : Nat} {v : Value} {k : Nat} {e : Int} (h : Sk T w g v k e) (o : Obj) : Sk T (w.alloc o) g v k e := h.kept (World.grownBy_alloc w o none) (by simp)
theorem Sk.set1 {T : TypeId} {w : World} {g : Nat} {v : Value} {k : Nat} {e : Int} (h : Sk T w g v k e) (j : Nat) {z : Int} (hz : z = (j : Int)) : Sk T (w.setCell ⟨g, 1, none⟩ (.int .i64 z)) g v j e := by
  subst hz; unfold Sk at h ⊢; simp [World.setCell, Array.getElem?_modify, h]
theorem Sk.set2 {T : TypeId} {w : World} {g : Nat} {v : Value} {k : Nat} {e : Int} (h : Sk T w g v k e) (f : Int) : Sk T (w.setCell ⟨g, 2, none⟩ (ev f)) g v k f := by
  unfold Sk at h ⊢; simp [World.setCell, Array.getElem?_modify, h]
theorem gb_refl (w : World) (r : Option Nat) : w.grownBy w r := ⟨rfl, rfl, rfl, Nat.le_refl _, fun _ _ _ => rfl⟩
theorem gb_set {a w : World} {g : Nat} (h : a.grownBy w (some g)) (i : Nat) (u : Value) : a.grownBy (w.setCell ⟨g, i, none⟩ u) (some g) :=
  h.trans ⟨rfl, rfl, rfl, by simp [World.setCell], fun k _ hne => Below.heap_setCell w _ u k (by intro e; exact hne (by rw [e]))⟩
theorem gb_draw {a w : World} {r : Option Nat} (h : a.grownBy w r) (n : Nat) : a.grownBy (w.drewN n) r := ⟨h.os, h.tape, h.output, h.size, h.block⟩
theorem gb_alloc {a w : World} {r : Option Nat} (h : a.grownBy w r) (o : Obj) : a.grownBy (w.alloc o) r := h.trans (World.grownBy_alloc w o r)
theorem gb_below {a w w' : World} {r : Option Nat} (h : a.grownBy w r) (hb : Below w.heap.size w w') : a.grownBy w' r :=
  h.trans ⟨hb.os, hb.tape, hb.output, hb.size, fun k hk _ => hb.block k hk⟩
theorem gb_bel {w w' : World} {g B : Nat} (h : w.grownBy w' (some g)) (hB : B ≤ g) (hs : B ≤ w.heap.size) : Below B w w' :=
  (Below.refl _ _).grown h hs fun k hk => by injection hk with hk; omega
/-- The world behind an act of the scanner g: it stands at k with the error e; all else is as it was. -/
def Mv (T : TypeId) (g : Nat) (v : Value) (k : Nat) (e : Int) (w w' : World) : Prop := Sk T w' g v k e ∧ w.grownBy w' (some g)
theorem Mv.refl {T : TypeId} {w : World} {g : Nat} {v : Value} {k : Nat} {e : Int} (h : Sk T w g v k e) (n : Nat) : Mv T g v k e w (w.drewN n) := ⟨h, gb_draw (gb_refl _ _) n⟩
end Go.Proofs.YtkhcneacjnpcnaaGreatDoor
