/- Merged: Row, Own, ScanM. -/
import Derived.Test.YtiamggjebaabkaaGreatDoorGListRemarks1
import Derived.Test.YtiamggjebaabkaaGreatDoorGListRemarks4
import Derived.ChangeSlices
import Derived.WideKeyArgs
import Derived.WideKeyPair
import Derived.Carry
import Derived.Laws.IdiomStrings
import Derived.Laws.BytesArg
import Derived.Laws.OwnMore
import Derived.Maps.AppendAt
import Derived.OwnWalk
import Derived.Below
import Derived.Laws.AppendOwnNone
import Derived.Deep.RegionLaw
namespace Go.Proofs.YtiamggjebaabkaaGreatDoor
open Go.RowKit Go.WideShapes Go.ChangeShapes
set_option linter.unusedVariables false

/-- The slice at A reads as the numbers zs, of kind k. -/
def Rz (k : IntKind) (w : World) (A : Option Addr) (zs : List Int) : Prop :=
  (∀ z ∈ zs, (Lit.int k z).wf = true) ∧ (zs = [] ∨ ∃ b off, A = some ⟨b, off, none⟩ ∧ b < w.heap.size ∧ ∀ j z, zs[j]? = some z → w.cell? ⟨b, off + j, none⟩ = some (.int k z))
theorem Rz.below {k : IntKind} {w w' : World} {A : Option Addr} {zs : List Int} (h : Rz k w A zs) (hb : Below w.heap.size w w') : Rz k w' A zs := by
  refine ⟨h.1, ?_⟩
  rcases h.2 with h0 | ⟨b, off, h1, h2, h3⟩
  · exact .inl h0
  · exact .inr ⟨b, off, h1, Nat.lt_of_lt_of_le h2 hb.size, fun j z hz => (hb.cell (p := ⟨b, off + j, none⟩) h2).trans (h3 j z hz)⟩
theorem Rz.drewN {k : IntKind} {w : World} {A : Option Addr} {zs : List Int} (h : Rz k w A zs) (n : Nat) : Rz k (w.drewN n) A zs := h
theorem Rz.cell {k : IntKind} {w : World} {A : Option Addr} {zs : List Int} (h : Rz k w A zs) {i : Nat} (hi : i < zs.length) : ∃ b off, A = some ⟨b, off, none⟩ ∧ b < w.heap.size ∧ w.cell? ⟨b, off + i, none⟩ = some (.int k zs[i]) := by
  rcases h.2 with h0 | ⟨b, off, h1, h2, h3⟩
  · rw [h0] at hi; simp at hi
  · exact ⟨b, off, h1, h2, h3 i _ (List.getElem?_eq_getElem hi)⟩
theorem Rz.none_ {k : IntKind} {w : World} {zs : List Int} (h : Rz k w none zs) : zs = [] := by
  rcases h.2 with h0 | ⟨b, off, h1, _⟩
  · exact h0
  · cases h1
theorem Rz.drop_ {k : IntKind} {w : World} {b off : Nat} {zs : List Int} (h : Rz k w (some ⟨b, off, none⟩) zs) (n : Nat) : Rz k w (some ⟨b, off + n, none⟩) (zs.drop n) := by
  refine ⟨fun z hz => h.1 z (List.mem_of_mem_drop hz), ?_⟩
  rcases h.2 with h0 | ⟨b', off', h1, h2, h3⟩
  · exact .inl (by rw [h0]; simp)
  · injection h1 with h1
    injection h1 with h1 h4
    subst h1; subst h4
    exact .inr ⟨b, off + n, rfl, h2, fun j z hz => by rw [Nat.add_assoc]; exact h3 (n + j) z (by rw [← hz, List.getElem?_drop])⟩
theorem Rz.take_ {k : IntKind} {w : World} {A : Option Addr} {zs : List Int} (h : Rz k w A zs) (n : Nat) : Rz k w A (zs.take n) := by
  refine ⟨fun z hz => h.1 z (List.mem_of_mem_take hz), ?_⟩
  rcases h.2 with h0 | ⟨b, off, h1, h2, h3⟩
  · exact .inl (by rw [h0]; simp)
  · exact .inr ⟨b, off, h1, h2, fun j z hz => h3 j z (by
      rw [List.getElem?_take] at hz
      split at hz
      · exact hz
      · cases hz)⟩

/-- Bytes as numbers. -/
def nums (l : List UInt8) : List Int := l.map fun b => (b.toNat : Int)
theorem nums_len (l : List UInt8) : (nums l).length = l.length := by simp [nums]
/-- The slice at A reads as the bytes l. -/
def Rb (w : World) (A : Option Addr) (l : List UInt8) : Prop := Rz .u8 w A (nums l)
theorem Rb.below {w w' : World} {A : Option Addr} {l : List UInt8} (h : Rb w A l) (hb : Below w.heap.size w w') : Rb w' A l := Rz.below h hb
theorem Rb.drewN {w : World} {A : Option Addr} {l : List UInt8} (h : Rb w A l) (n : Nat) : Rb (w.drewN n) A l := h
theorem Rb.cell {w : World} {A : Option Addr} {l : List UInt8} (h : Rb w A l) {i : Nat} (hi : i < l.length) : ∃ b off, A = some ⟨b, off, none⟩ ∧ b < w.heap.size ∧ w.cell? ⟨b, off + i, none⟩ = some (.int .u8 (l[i].toNat : Int)) := by
  obtain ⟨b, off, h1, h2, h3⟩ := Rz.cell h (i := i) (by rw [nums_len]; exact hi)
  refine ⟨b, off, h1, h2, ?_⟩
  rw [h3]; simp [nums]
theorem Rb.none_ {w : World} {l : List UInt8} (h : Rb w none l) : l = [] := by
  have := Rz.none_ h
  unfold nums at this; simpa using this
theorem Rb.drop_ {w : World} {b off : Nat} {l : List UInt8} (h : Rb w (some ⟨b, off, none⟩) l) (n : Nat) : Rb w (some ⟨b, off + n, none⟩) (l.drop n) := by
  have := Rz.drop_ h n
  unfold Rb nums at *
  rw [List.map_drop]; exact this
theorem Rb.take_ {w : World} {A : Option Addr} {l : List UInt8} (h : Rb w A l) (n : Nat) : Rb w A (l.take n) := by
  have := Rz.take_ h n
  unfold Rb nums at *
  rw [List.map_take]; exact this
theorem Rb.nil {w : World} (A : Option Addr) : Rb w A [] := ⟨(fun z hz => by simp [nums] at hz), .inl rfl⟩

section
variable {H : Type} {enc : TypeId × Value → H} {P : Program}
end

/-! ### strings of bytes -/
end Go.Proofs.YtiamggjebaabkaaGreatDoor

namespace Go.Proofs.YtiamggjebaabkaaGreatDoor
open Go.RowKit Go.WideShapes Go.ChangeShapes
set_option linter.unusedVariables false

def cz (k : IntKind) (zs : List Int) : List Value := zs.map fun z => Value.int k z
theorem cz_len (k : IntKind) (zs : List Int) : (cz k zs).length = zs.length := by simp [cz]
theorem cz_at {k : IntKind} {zs : List Int} {j : Nat} {u : Value} (h : (cz k zs)[j]? = some u) : ∃ z, zs[j]? = some z ∧ u = .int k z := by
  unfold cz at h
  rw [List.getElem?_map] at h
  cases hz : zs[j]? with
  | none => rw [hz] at h; cases h
  | some z => rw [hz] at h; exact ⟨z, rfl, by simpa using h.symm⟩
/-- The value v is a row of the call's own that holds the numbers zs. -/
def Oz (w : World) (base : Nat) (e : TypeId) (k : IntKind) (v : Value) (zs : List Int) : Prop := w.ownsRow base e 1 v zs.length (cz k zs)
theorem Oz.below {w w' : World} {base B : Nat} {e : TypeId} {k : IntKind} {v : Value} {zs : List Int} (h : Oz w base e k v zs) (hb : Below B w w') (hB : w.heap.size ≤ B) : Oz w' base e k v zs := by
  refine ⟨h.1, ?_⟩
  rcases h.2 with h0 | ⟨g, cap, cur, h1, h2, h3, h4⟩
  · exact .inl h0
  · refine .inr ⟨g, cap, cur, h1, h2, ?_, h4⟩
    have hlt : g < w.heap.size := by
      rcases Nat.lt_or_ge g w.heap.size with hlt | hge
      · exact hlt
      · rw [Array.getElem?_eq_none hge] at h3; cases h3
    rw [hb.block g (by omega)]; exact h3
theorem Oz.drewN {w : World} {base : Nat} {e : TypeId} {k : IntKind} {v : Value} {zs : List Int} (h : Oz w base e k v zs) (n : Nat) : Oz (w.drewN n) base e k v zs := h
theorem Oz.nil {w : World} (base : Nat) (e : TypeId) (k : IntKind) : Oz w base e k (.slice none 0 0) [] := ⟨rfl, .inl ⟨rfl, rfl⟩⟩
/-- It reads as its numbers. -/
theorem Oz.reads {w : World} {base : Nat} {e : TypeId} {k : IntKind} {v : Value} {zs : List Int} (h : Oz w base e k v zs) (hf : ∀ z ∈ zs, (Lit.int k z).wf = true) :
    ∃ A c, v = .slice A zs.length c ∧ Rz k w A zs ∧ (A = none → c = 0) ∧ zs.length ≤ c ∧ c ≤ maxLen := by
  rcases h.2 with ⟨hv, hn⟩ | ⟨g, cap, cur, hv, hb, hh, hc, hm, _, _⟩
  · obtain rfl : zs = [] := List.eq_nil_of_length_eq_zero hn
    exact ⟨none, 0, hv, ⟨hf, .inl rfl⟩, fun _ => rfl, Nat.le_refl _, by decide⟩
  · refine ⟨_, cap, hv, ⟨hf, .inr ⟨g, 0, rfl, ?_, fun j z hj => ?_⟩⟩, (fun h => by cases h), hc, hm⟩
    · rcases Nat.lt_or_ge g w.heap.size with hlt | hge
      · exact hlt
      · rw [Array.getElem?_eq_none hge] at hh; cases hh
    · have hz : (cz k zs)[j]? = some (.int k z) := by unfold cz; rw [List.getElem?_map, hj]; rfl
      have := World.ownsRow.cells h (g := g) (by rw [hv]; rfl) j _ hz
      rw [← this]
      unfold Addr.add
      by_cases h0 : j = 0
      · subst h0; rfl
      · simp [h0]
theorem Oz.block {w : World} {base : Nat} {e : TypeId} {k : IntKind} {v : Value} {zs : List Int} (h : Oz w base e k v zs) : ∀ g, v.ownBlock = some g → base ≤ g := by
  intro g hg
  rcases h.2 with ⟨hv, _⟩ | ⟨g', cap, cur, hv, hb, _⟩
  · rw [hv] at hg; simp [Value.ownBlock] at hg
  · rw [hv] at hg
    have : g' = g := by simpa [Value.ownBlock] using hg
    omega

end Go.Proofs.YtiamggjebaabkaaGreatDoor

namespace Go.Proofs.YtiamggjebaabkaaGreatDoor
open Go.RowKit
set_option linter.unusedVariables false

/-! ### lists -/
/-- What is left behind a place, if there is no error. -/
def rs (l : List UInt8) (k : Nat) (e : Int) : List UInt8 := if e = 0 then l.drop k else []
theorem rs_zero (l : List UInt8) (k : Nat) : rs l k 0 = l.drop k := by unfold rs; rw [if_pos rfl]
theorem rs_bad (l : List UInt8) (k : Nat) {e : Int} (h : e ≠ 0) : rs l k e = [] := by unfold rs; rw [if_neg h]
theorem rs_len (l : List UInt8) (k : Nat) (e : Int) : (rs l k e).length = if e = 0 then l.length - k else 0 := by
  unfold rs; split <;> simp
theorem rs_le (l : List UInt8) (k : Nat) (e : Int) : (rs l k e).length ≤ l.length - k := by rw [rs_len]; split <;> omega
/-- How many bytes at the beginning are such ones. -/
def tw (p : UInt8 → Bool) : List UInt8 → Nat
  | [] => 0
  | b :: r => if p b then tw p r + 1 else 0
theorem tw_le (p : UInt8 → Bool) : ∀ l : List UInt8, tw p l ≤ l.length
  | [] => Nat.le_refl _
  | b :: r => by have := tw_le p r; unfold tw; split <;> simp <;> omega
theorem tw_step {p : UInt8 → Bool} {l : List UInt8} {i : Nat} (h : i < l.length) : tw p (l.drop i) = if p l[i] then tw p (l.drop (i + 1)) + 1 else 0 := by
  rw [List.drop_eq_getElem_cons h]; rfl
theorem tw_end {p : UInt8 → Bool} {l : List UInt8} {i : Nat} (h : l.length ≤ i) : tw p (l.drop i) = 0 := by rw [List.drop_eq_nil_of_le h]; rfl

/-! ### a scanner's block -/
/-- The block g holds a scanner of the text v, at k, with the error e. -/
def Sk (T : TypeId) (w : World) (g : Nat) (v : Value) (k : Nat) (e : Int) : Prop := w.heap[g]? = some (.cells #[v, .int .i64 (k : Int), ev e] T (0, 0))
theorem Sk.lt {T : TypeId} {w : World} {g : Nat} {v : Value} {k : Nat} {e : Int} (h : Sk T w g v k e) : g < w.heap.size := (Array.getElem?_eq_some_iff.1 h).1
theorem Sk.c0 {T : TypeId} {w : World} {g : Nat} {v : Value} {k : Nat} {e : Int} (h : Sk T w g v k e) : w.cell? ⟨g, 0, none⟩ = some v := by unfold Sk at h; simp [World.cell?, h]
theorem Sk.c1 {T : TypeId} {w : World} {g : Nat} {v : Value} {k : Nat} {e : Int} (h : Sk T w g v k e) : w.cell? ⟨g, 1, none⟩ = some (.int .i64 (k : Int)) := by unfold Sk at h; simp [World.cell?, h]
theorem Sk.c2 {T : TypeId} {w : World} {g : Nat} {v : Value} {k : Nat} {e : Int} (h : Sk T w g v k e) : w.cell? ⟨g, 2, none⟩ = some (ev e) := by unfold Sk at h; simp [World.cell?, h]
theorem Sk.free {T : TypeId} {w : World} {g : Nat} {v : Value} {k : Nat} {e : Int} (h : Sk T w g v k e) (i : Nat) : w.frozen? ⟨g, i, none⟩ = false := by unfold Sk at h; simp [World.frozen?, h]
theorem Sk.drewN {T : TypeId} {w : World} {g : Nat} {v : Value} {k : Nat} {e : Int} (h : Sk T w g v k e) (n : Nat) : Sk T (w.drewN n) g v k e := h
theorem Sk.kept {T : TypeId} {w w' : World} {g : Nat} {v : Value} {k : Nat} {e : Int} {row : Option Nat} (h : Sk T w g v k e) (hg : w.grownBy w' row) (hne : some g ≠ row) : Sk T w' g v k e := (hg.block g h.lt hne).trans h
theorem Sk.below {T : TypeId} {w w' : World} {g B : Nat} {v : Value} {k : Nat} {e : Int} (h : Sk T w g v k e) (hb : Below B w w') (hB : g < B) : Sk T w' g v k e := (hb.block g hB).trans h
theorem Sk.alloc {T : TypeId} {w : World} {g : Nat} {v : Value} {k : Nat} {e : Int} (h : Sk T w g v k e) (o : Obj) : Sk T (w.alloc o) g v k e := h.kept (World.grownBy_alloc w o none) (by simp)
theorem Sk.set1 {T : TypeId} {w : World} {g : Nat} {v : Value} {k : Nat} {e : Int} (h : Sk T w g v k e) (j : Nat) {z : Int} (hz : z = (j : Int)) : Sk T (w.setCell ⟨g, 1, none⟩ (.int .i64 z)) g v j e := by
  subst hz; unfold Sk at h ⊢; simp [World.setCell, Array.getElem?_modify, h]
theorem Sk.set2 {T : TypeId} {w : World} {g : Nat} {v : Value} {k : Nat} {e : Int} (h : Sk T w g v k e) (f : Int) : Sk T (w.setCell ⟨g, 2, none⟩ (ev f)) g v k f := by
  unfold Sk at h ⊢; simp [World.setCell, Array.getElem?_modify, h]
theorem gb_refl (w : World) (r : Option Nat) : w.grownBy w r := ⟨rfl, rfl, rfl, Nat.le_refl _, fun _ _ _ => rfl⟩
theorem gb_set {a w : World} {g : Nat} (h : a.grownBy w (some g)) (i : Nat) (u : Value) : a.grownBy (w.setCell ⟨g, i, none⟩ u) (some g) :=
  h.trans ⟨rfl, rfl, rfl, by simp [World.setCell], fun k _ hne => Below.heap_setCell w _ u k (by intro e; exact hne (by rw [e]))⟩
theorem gb_draw {a w : World} {r : Option Nat} (h : a.grownBy w r) (n : Nat) : a.grownBy (w.drewN n) r := ⟨h.os, h.tape, h.output, h.size, h.block⟩
theorem gb_alloc {a w : World} {r : Option Nat} (h : a.grownBy w r) (o : Obj) : a.grownBy (w.alloc o) r := h.trans (World.grownBy_alloc w o r)
theorem gb_below {a w w' : World} {r : Option Nat} (h : a.grownBy w r) (hb : Below w.heap.size w w') : a.grownBy w' r :=
  h.trans ⟨hb.os, hb.tape, hb.output, hb.size, fun k hk _ => hb.block k hk⟩
/-- The world behind an act of the scanner g: it stands at k with the error e; all else is as it was. -/
def Mv (T : TypeId) (g : Nat) (v : Value) (k : Nat) (e : Int) (w w' : World) : Prop := Sk T w' g v k e ∧ w.grownBy w' (some g)
theorem Mv.refl {T : TypeId} {w : World} {g : Nat} {v : Value} {k : Nat} {e : Int} (h : Sk T w g v k e) (n : Nat) : Mv T g v k e w (w.drewN n) := ⟨h, gb_draw (gb_refl _ _) n⟩
end Go.Proofs.YtiamggjebaabkaaGreatDoor
