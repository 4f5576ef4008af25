/- Merged: ScanM, ScanA. -/
import Derived.Test.YtkhcneacjnpcnaaGPosixParses4
import Derived.LoopTactic
import Derived.Lib.Walk
namespace Go.Proofs.Ytkhcneacjnpcnaa
open Go.RowKit
set_option linter.unusedVariables false

/-! ### lists -/
/-- What is left behind a place, if there is no error. -/
def rs (l : List UInt8) (k : Nat) (e : Int) : List UInt8 := if e = 0 then l.drop k else []
theorem rs_zero (l : List UInt8) (k : Nat) : rs l k 0 = l.drop k := by unfold rs; rw [if_pos rfl]
theorem rs_bad (l : List UInt8) (k : Nat) {e : Int} (h : e ≠ 0) : rs l k e = [] := by unfold rs; rw [if_neg h]
theorem rs_len (l : List UInt8) (k : Nat) (e : Int) : (rs l k e).length = if e = 0 then l.length - k else 0 := by
  unfold rs; split <;> simp
theorem rs_le (l : List UInt8) (k : Nat) (e : Int) : (rs l k e).length ≤ l.length - k := by rw [rs_len]; split <;> omega
/-- A byte, a letter as a small one. -/
def lw (b : UInt8) : Int := if 65 ≤ (b.toNat : Int) ∧ (b.toNat : Int) ≤ 90 then (b.toNat : Int) + 32 else (b.toNat : Int)
def al (a b : UInt8) : Bool := lw a == lw b
/-- Does a text begin with what is alike? -/
def fmB : List UInt8 → List UInt8 → Bool
  | _, [] => true
  | [], _ :: _ => false
  | a :: r, b :: w => al a b && fmB r w
theorem fmB_nil (r : List UInt8) : fmB r [] = true := by cases r <;> rfl
theorem fmB_le : ∀ {r w : List UInt8}, fmB r w = true → w.length ≤ r.length
  | _, [], _ => by simp
  | [], _ :: _, h => by cases h
  | a :: r, b :: w, h => by
    have := fmB_le (r := r) (w := w) (by unfold fmB at h; simp at h; exact h.2)
    simp; omega
theorem fmB_step {r w : List UInt8} {j : Nat} (h1 : j < r.length) (h2 : j < w.length) : fmB (r.drop j) (w.drop j) = (al r[j] w[j] && fmB (r.drop (j + 1)) (w.drop (j + 1))) := by
  rw [List.drop_eq_getElem_cons h1, List.drop_eq_getElem_cons h2]; rfl
theorem fmB_end {r w : List UInt8} {j : Nat} (h : w.length ≤ j) : fmB (r.drop j) (w.drop j) = true := by
  rw [List.drop_eq_nil_of_le h]; exact fmB_nil _
/-- How many bytes at the beginning are such ones. -/
def tw (p : UInt8 → Bool) : List UInt8 → Nat
  | [] => 0
  | b :: r => if p b then tw p r + 1 else 0
theorem tw_step {p : UInt8 → Bool} {l : List UInt8} {i : Nat} (h : i < l.length) : tw p (l.drop i) = if p l[i] then tw p (l.drop (i + 1)) + 1 else 0 := by
  rw [List.drop_eq_getElem_cons h]; rfl
theorem tw_end {p : UInt8 → Bool} {l : List UInt8} {i : Nat} (h : l.length ≤ i) : tw p (l.drop i) = 0 := by rw [List.drop_eq_nil_of_le h]; rfl

/-! ### a scanner's block -/
/-- The block g holds a scanner of the text v, at k, with the error e. -/
def Sk (T : TypeId) (w : World) (g : Nat) (v : Value) (k : Nat) (e : Int) : Prop := w.heap[g]? = some (.cells #[v, .int .i64 (k : Int), ev e] T (0, 0))
theorem Sk.lt {T : TypeId} {w : World} {g : Nat} {v : Value} {k : Nat} {e : Int} (h : Sk T w g v k e) : g < w.heap.size := (Array.getElem?_eq_some_iff.1 h).1
theorem Sk.c0 {T : TypeId} {w : World} {g : Nat} {v : Value} {k : Nat} {e : Int} (h : Sk T w g v k e) : w.cell? ⟨g, 0, none⟩ = some v := by unfold Sk at h; simp [World.cell?, h]
theorem Sk.c1 {T : TypeId} {w : World} {g : Nat} {v : Value} {k : Nat} {e : Int} (h : Sk T w g v k e) : w.cell? ⟨g, 1, none⟩ = some (.int .i64 (k : Int)) := by unfold Sk at h; simp [World.cell?, h]
theorem Sk.c2 {T : TypeId} {w : World} {g : Nat} {v : Value} {k : Nat} {e : Int} (h : Sk T w g v k e) : w.cell? ⟨g, 2, none⟩ = some (ev e) := by unfold Sk at h; simp [World.cell?, h]
theorem Sk.free {T : TypeId} {w : World} {g : Nat} {v : Value} {k : Nat} {e : Int} (h : Sk T w g v k e) (i : Nat) : w.frozen? ⟨g, i, none⟩ = false := by unfold Sk at h; simp [World.frozen?, h]
theorem Sk.drewN {T : TypeId} {w : World} {g : Nat} {v : Value} {k : Nat} {e : Int} (h : Sk T w g v k e) (n : Nat) : Sk T (w.drewN n) g v k e := h
theorem Sk.kept {T : TypeId} {w w' : World} {g : Nat} {v : Value} {k : Nat} {e : Int} {row : Option Nat} (h : Sk T w g v k e) (hg : w.grownBy w' row) (hne : some g ≠ row) : Sk T w' g v k e := (hg.block g h.lt hne).trans h
theorem Sk.below {T : TypeId} {w w' : World} {g B : Nat} {v : Value} {k : Nat} {e : Int} (h : Sk T w g v k e) (hb : Below B w w') (hB : g < B) : Sk T w' g v k e := (hb.block g hB).trans h
theorem Sk.alloc {T : TypeId} {w : World} {g : Nat} {v : Value} {k : Nat} {e : Int} (h : Sk T w g v k e) (o : Obj) : Sk T (w.alloc o) g v k e := h.kept (World.grownBy_alloc w o none) (by simp)
theorem Sk.set1 {T : TypeId} {w : World} {g : Nat} {v : Value} {k : Nat} {e : Int} (h : Sk T w g v k e) (j : Nat) {z : Int} (hz : z = (j : Int)) : Sk T (w.setCell ⟨g, 1, none⟩ (.int .i64 z)) g v j e := by
  subst hz; unfold Sk at h ⊢; simp [World.setCell, Array.getElem?_modify, h]
theorem Sk.set2 {T : TypeId} {w : World} {g : Nat} {v : Value} {k : Nat} {e : Int} (h : Sk T w g v k e) (f : Int) : Sk T (w.setCell ⟨g, 2, none⟩ (ev f)) g v k f := by
  unfold Sk at h ⊢; simp [World.setCell, Array.getElem?_modify, h]
theorem gb_refl (w : World) (r : Option Nat) : w.grownBy w r := ⟨rfl, rfl, rfl, Nat.le_refl _, fun _ _ _ => rfl⟩
theorem gb_set {a w : World} {g : Nat} (h : a.grownBy w (some g)) (i : Nat) (u : Value) : a.grownBy (w.setCell ⟨g, i, none⟩ u) (some g) :=
  h.trans ⟨rfl, rfl, rfl, by simp [World.setCell], fun k _ hne => Below.heap_setCell w _ u k (by intro e; exact hne (by rw [e]))⟩
theorem gb_draw {a w : World} {r : Option Nat} (h : a.grownBy w r) (n : Nat) : a.grownBy (w.drewN n) r := ⟨h.os, h.tape, h.output, h.size, h.block⟩
theorem gb_alloc {a w : World} {r : Option Nat} (h : a.grownBy w r) (o : Obj) : a.grownBy (w.alloc o) r := h.trans (World.grownBy_alloc w o r)
theorem gb_below {a w w' : World} {r : Option Nat} (h : a.grownBy w r) (hb : Below w.heap.size w w') : a.grownBy w' r :=
  h.trans ⟨hb.os, hb.tape, hb.output, hb.size, fun k hk _ => hb.block k hk⟩
theorem gb_bel {w w' : World} {g B : Nat} (h : w.grownBy w' (some g)) (hB : B ≤ g) (hs : B ≤ w.heap.size) : Below B w w' :=
  (Below.refl _ _).grown h hs fun k hk => by injection hk with hk; omega
/-- The world behind an act of the scanner g: it stands at k with the error e; all else is as it was. -/
def Mv (T : TypeId) (g : Nat) (v : Value) (k : Nat) (e : Int) (w w' : World) : Prop := Sk T w' g v k e ∧ w.grownBy w' (some g)
theorem Mv.refl {T : TypeId} {w : World} {g : Nat} {v : Value} {k : Nat} {e : Int} (h : Sk T w g v k e) (n : Nat) : Mv T g v k e w (w.drewN n) := ⟨h, gb_draw (gb_refl _ _) n⟩
end Go.Proofs.Ytkhcneacjnpcnaa

namespace Go.Proofs.Ytkhcneacjnpcnaa
open Go.RowKit
set_option linter.unusedVariables false

/-- The text of a scanner in the block g: a string. -/
def Txs (w : World) (g : Nat) (v : Value) (s : ByteArray) : Prop := v = .string s
/-- The text of a scanner in the block g: bytes, elsewhere. -/
def Txb (w : World) (g : Nat) (v : Value) (s : ByteArray) : Prop :=
  ∃ A c, v = .slice A s.size c ∧ Rb w A s.data.toList ∧ (A = none → c = 0) ∧ s.size ≤ c ∧ c ≤ maxLen ∧ ∀ ad, A = some ad → ad.block ≠ g
theorem Txs.kept {w w' : World} {g : Nat} {v : Value} {s : ByteArray} (h : Txs w g v s) (hg : w.grownBy w' (some g)) : Txs w' g v s := h
theorem Rb.kept {w w' : World} {g : Nat} {A : Option Addr} {l : List UInt8} (h : Rb w A l) (hg : w.grownBy w' (some g)) (hne : ∀ ad, A = some ad → ad.block ≠ g) : Rb w' A l := by
  refine ⟨h.1, ?_⟩
  rcases h.2 with h0 | ⟨b, off, h1, h2, h3⟩
  · exact .inl h0
  · exact .inr ⟨b, off, h1, Nat.lt_of_lt_of_le h2 hg.size, fun j z hz => hg.cell (h3 j z hz) (by intro e; injection e with e; exact hne _ h1 e)⟩
theorem Txb.kept {w w' : World} {g : Nat} {v : Value} {s : ByteArray} (h : Txb w g v s) (hg : w.grownBy w' (some g)) : Txb w' g v s := by
  obtain ⟨A, c, h1, h2, h3, h4, h5, h6⟩ := h
  exact ⟨A, c, h1, h2.kept hg h6, h3, h4, h5, h6⟩

/-- The type of its block. -/
abbrev Ts : TypeId := 57
theorem stopped_s (g k : Nat) (e : Int) (v : Value) (w : World) (h : Sk Ts w g v k e) :
    Calls Try.prog 41 #[.pointer (some ⟨g, 0, none⟩)] w fun x w' => x = .returned (.bool (e != 0)) ∧ w = w' := by
  have c2 := h.c2
  have q0 := fun op t x k => guard_ev op t w x k
  have q2 := fun k => neq_ev w k
  clear h
  go_enter Try.func41, Try.ntmps41
  go_wp2
  go_ret
  exact ⟨rfl, rfl⟩
theorem err_s (g k : Nat) (e : Int) (v : Value) (w : World) (h : Sk Ts w g v k e) :
    Calls Try.prog 23 #[.pointer (some ⟨g, 0, none⟩)] w fun x w' => x = .returned (ev e) ∧ w = w' := by
  have c2 := h.c2
  clear h
  go_enter Try.func23, Try.ntmps23
  go_wp2
  go_ret
  exact ⟨rfl, rfl⟩

set_option maxHeartbeats 800000 in
theorem left_s (g k : Nat) (e : Int) (v : Value) (s : ByteArray) (w : World) (h : Sk Ts w g v k e) (ht : Txs w g v s) (hk : k ≤ s.size) (hs : s.size ≤ 100000) :
    Calls Try.prog 20 #[.pointer (some ⟨g, 0, none⟩)] w fun x w' => x = .returned (.int .i64 ((rs s.data.toList k e).length : Nat)) ∧ ∃ n, w' = w.drewN n := by
  have HT := Lib.hid (stopped_s g k e v w h)
  have hl := rs_len s.data.toList k e
  rw [show s.data.toList.length = s.size by simp] at hl
  have c0 := h.c0
  have c1 := h.c1
  obtain rfl := ht
  by_cases h0 : e = 0
  · rw [if_pos h0] at hl
    subst h0
    rw [hl]
    clear hl h 
    have hsub : (s.size : Int) - (k : Int) = ((s.size - k : Nat) : Int) := by omega
    have HS := Lib.hid hsub; clear hsub
    have hz : ((0 : Int) != 0) = false := rfl
    go_enter Try.func20, Try.ntmps20
    go_wp2_with (go_at_call 41; refine HT.out.mono ?_; rintro e w' ⟨rfl, rfl⟩)
    go_quiet (fail)
    go_wp2
    go_ret
    exact ⟨ret1_eq (int_eq HS.out), _, rfl⟩
  · rw [if_neg h0] at hl
    rw [hl]
    have hz : (e != 0) = true := bne_iff_ne.mpr h0
    clear hl h h0 
    go_enter Try.func20, Try.ntmps20
    go_wp2_with (go_at_call 41; refine HT.out.mono ?_; rintro e w' ⟨rfl, rfl⟩)
    go_ret
    exact ⟨rfl, 0, rfl⟩
end Go.Proofs.Ytkhcneacjnpcnaa
