/- Slices of integers of any kind, and of bytes: what they read as; arguments that are such slices, opened; strings of bytes. -/
import Derived.Test.YtkhcneacjnpcnaaDoorErr
import Derived.Test.YtkhcneacjnpcnaaDoorPost
import Derived.ChangeSlices
import Derived.WideKeyArgs
import Derived.WideKeyPair
import Derived.Carry
import Derived.Laws.IdiomStrings
import Derived.Laws.BytesArg
import Derived.Laws.OwnMore
import Derived.Maps.AppendAt
import Derived.OwnWalk
import Derived.Below
namespace Go.Proofs.YtkhcneacjnpcnaaDoor
open Go.RowKit Go.WideShapes Go.ChangeShapes
set_option linter.unusedVariables false

/-- The slice at A reads as the numbers zs, of kind k. -/
def Rz (k : IntKind) (w : World) (A : Option Addr) (zs : List Int) : Prop :=
  (∀ z ∈ zs, (Lit.int k z).wf = true) ∧ (zs = [] ∨ ∃ b off, A = some ⟨b, off, none⟩ ∧ b < w.heap.size ∧ ∀ j z, zs[j]? = some z → w.cell? ⟨b, off + j, none⟩ = some (.int k z))
theorem Rz.below {k : IntKind} {w w' : World} {A : Option Addr} {zs : List Int} (h : Rz k w A zs) (hb : Below w.heap.size w w') : Rz k w' A zs := by
  refine ⟨h.1, ?_⟩
  rcases h.2 with h0 | ⟨b, off, h1, h2, h3⟩
  · exact .inl h0
  · exact .inr ⟨b, off, h1, Nat.lt_of_lt_of_le h2 hb.size, fun j z hz => (hb.cell (p := ⟨b, off + j, none⟩) h2).trans (h3 j z hz)⟩
theorem Rz.drewN {k : IntKind} {w : World} {A : Option Addr} {zs : List Int} (h : Rz k w A zs) (n : Nat) : Rz k (w.drewN n) A zs := h
theorem Rz.cell {k : IntKind} {w : World} {A : Option Addr} {zs : List Int} (h : Rz k w A zs) {i : Nat} (hi : i < zs.length) : ∃ b off, A = some ⟨b, off, none⟩ ∧ b < w.heap.size ∧ w.cell? ⟨b, off + i, none⟩ = some (.int k zs[i]) := by
  rcases h.2 with h0 | ⟨b, off, h1, h2, h3⟩
  · rw [h0] at hi; simp at hi
  · exact ⟨b, off, h1, h2, h3 i _ (List.getElem?_eq_getElem hi)⟩
theorem Rz.none_ {k : IntKind} {w : World} {zs : List Int} (h : Rz k w none zs) : zs = [] := by
  rcases h.2 with h0 | ⟨b, off, h1, _⟩
  · exact h0
  · cases h1
theorem Rz.drop_ {k : IntKind} {w : World} {b off : Nat} {zs : List Int} (h : Rz k w (some ⟨b, off, none⟩) zs) (n : Nat) : Rz k w (some ⟨b, off + n, none⟩) (zs.drop n) := by
  refine ⟨fun z hz => h.1 z (List.mem_of_mem_drop hz), ?_⟩
  rcases h.2 with h0 | ⟨b', off', h1, h2, h3⟩
  · exact .inl (by rw [h0]; simp)
  · injection h1 with h1
    injection h1 with h1 h4
    subst h1; subst h4
    exact .inr ⟨b, off + n, rfl, h2, fun j z hz => by rw [Nat.add_assoc]; exact h3 (n + j) z (by rw [← hz, List.getElem?_drop])⟩
theorem Rz.take_ {k : IntKind} {w : World} {A : Option Addr} {zs : List Int} (h : Rz k w A zs) (n : Nat) : Rz k w A (zs.take n) := by
  refine ⟨fun z hz => h.1 z (List.mem_of_mem_take hz), ?_⟩
  rcases h.2 with h0 | ⟨b, off, h1, h2, h3⟩
  · exact .inl (by rw [h0]; simp)
  · exact .inr ⟨b, off, h1, h2, fun j z hz => h3 j z (by
      rw [List.getElem?_take] at hz
      split at hz
      · exact hz
      · cases hz)⟩

/-- Bytes as numbers. -/
def nums (l : List UInt8) : List Int := l.map fun b => (b.toNat : Int)
theorem nums_len (l : List UInt8) : (nums l).length = l.length := by simp [nums]
theorem nums_at {l : List UInt8} {i : Nat} (h : i < l.length) : (nums l)[i]? = some (l[i].toNat : Int) := by
  unfold nums; rw [List.getElem?_map, List.getElem?_eq_getElem h]; rfl
/-- The slice at A reads as the bytes l. -/
def Rb (w : World) (A : Option Addr) (l : List UInt8) : Prop := Rz .u8 w A (nums l)
theorem Rb.below {w w' : World} {A : Option Addr} {l : List UInt8} (h : Rb w A l) (hb : Below w.heap.size w w') : Rb w' A l := Rz.below h hb
theorem Rb.drewN {w : World} {A : Option Addr} {l : List UInt8} (h : Rb w A l) (n : Nat) : Rb (w.drewN n) A l := h
theorem Rb.cell {w : World} {A : Option Addr} {l : List UInt8} (h : Rb w A l) {i : Nat} (hi : i < l.length) : ∃ b off, A = some ⟨b, off, none⟩ ∧ b < w.heap.size ∧ w.cell? ⟨b, off + i, none⟩ = some (.int .u8 (l[i].toNat : Int)) := by
  obtain ⟨b, off, h1, h2, h3⟩ := Rz.cell h (i := i) (by rw [nums_len]; exact hi)
  refine ⟨b, off, h1, h2, ?_⟩
  rw [h3]; simp [nums]
theorem Rb.none_ {w : World} {l : List UInt8} (h : Rb w none l) : l = [] := by
  have := Rz.none_ h
  unfold nums at this; simpa using this
theorem Rb.drop_ {w : World} {b off : Nat} {l : List UInt8} (h : Rb w (some ⟨b, off, none⟩) l) (n : Nat) : Rb w (some ⟨b, off + n, none⟩) (l.drop n) := by
  have := Rz.drop_ h n
  unfold Rb nums at *
  rw [List.map_drop]; exact this
theorem Rb.take_ {w : World} {A : Option Addr} {l : List UInt8} (h : Rb w A l) (n : Nat) : Rb w A (l.take n) := by
  have := Rz.take_ h n
  unfold Rb nums at *
  rw [List.map_take]; exact this
theorem Rb.nil {w : World} (A : Option Addr) : Rb w A [] := ⟨(fun z hz => by simp [nums] at hz), .inl rfl⟩

section
variable {H : Type} {enc : TypeId × Value → H} {P : Program}
theorem open_rz {k : IntKind} {W : World} {t e : TypeId} (ht : P.underlying t = some (.slice e)) (he : P.underlying e = some (.int k)) (hc : P.cellsOf e = 1) {A : Option Addr} {len cap : Nat} {d : DataW H} {p : List MemPlace}
    (h : DataW.Trod enc P W 0 (fun _ => true) true t (.slice A len cap) d p) : ∃ zs : List Int, len = zs.length ∧ Rz k W A zs ∧ (A = none → cap = 0) ∧ zs.length ≤ cap ∧ cap ≤ maxLen := by
  obtain ⟨fuel, hf⟩ := h
  rcases open_ints ht he hc hf with ⟨hcs, _⟩ | ⟨a, len', cap', zs, hcs, _, hl, hm, hz, _, hcell, hwz⟩
  · simp [Value.cells] at hcs
    obtain ⟨rfl, rfl, rfl⟩ := hcs
    exact ⟨[], rfl, ⟨(fun z hz => by cases hz), .inl rfl⟩, fun _ => rfl, by simp, by simp⟩
  · simp [Value.cells] at hcs
    obtain ⟨rfl, rfl, rfl⟩ := hcs
    simp only [if_true] at hz
    have e1 : (zs.take len).length = len := by rw [List.length_take]; omega
    refine ⟨zs.take len, e1.symm, ⟨fun z h => hwz z (List.mem_of_mem_take h), ?_⟩, (fun h => by cases h), by omega, hm⟩
    by_cases h0 : len = 0
    · subst h0; exact .inl (by simp)
    · right
      obtain ⟨b, off, spot⟩ := a
      have hspot : spot = none := by simpa [Addr.add] using World.cell?_spot (hcell 0 (by omega))
      subst hspot
      have hb := World.block_lt_of_cell? W _ (hcell 0 (by omega))
      refine ⟨b, off, rfl, by simpa [Addr.add] using hb, fun j z hj => ?_⟩
      have hjl : j < len := by have := (List.getElem?_eq_some_iff.1 hj).1; omega
      rw [← add_plain, hcell j (by omega)]
      rw [List.getElem?_take_of_lt hjl] at hj
      simp [List.getD_eq_getElem?_getD, hj]
theorem of_nums {zs : List Int} (h : ∀ z ∈ zs, (Lit.int .u8 z).wf = true) : nums (zs.map fun z => UInt8.ofNat z.toNat) = zs := by
  unfold nums
  rw [List.map_map]
  conv => rhs; rw [← List.map_id zs]
  refine List.map_congr_left fun z hz => ?_
  have := h z hz
  simp [Lit.wf, IntKind.min, IntKind.max, IntKind.signed, IntKind.bits] at this
  simp; omega
theorem open_rb {W : World} {t e : TypeId} (ht : P.underlying t = some (.slice e)) (he : P.underlying e = some (.int .u8)) (hc : P.cellsOf e = 1) {A : Option Addr} {len cap : Nat} {d : DataW H} {p : List MemPlace}
    (h : DataW.Trod enc P W 0 (fun _ => true) true t (.slice A len cap) d p) : ∃ l : List UInt8, len = l.length ∧ Rb W A l ∧ (A = none → cap = 0) ∧ l.length ≤ cap ∧ cap ≤ maxLen := by
  obtain ⟨zs, h1, h2, h3, h4, h5⟩ := open_rz ht he hc h
  refine ⟨zs.map fun z => UInt8.ofNat z.toNat, by simpa using h1, ?_, h3, by simpa using h4, h5⟩
  unfold Rb; rw [of_nums h2.1]; exact h2
/-- An argument reads behind the call as it did. -/
theorem argstays {W W' : World} {t : TypeId} {v : Value} {d : DataW H} {ps : List MemPlace} {sp : Nat → Bool} (hl : laidOutB P = true) (hr : P.readableRec t = true) (hrow : t < P.types.size)
    (h : DataW.Trod enc P W 0 (fun _ => true) true t v d ps) (hb : Below W.heap.size W W') (hlt : ∀ x ∈ ps, x.block < W.heap.size) (hs : ∀ x ∈ ps, sp x.block = true) : DataW.Trod enc P W' 0 sp true t v d ps :=
  WideElems.Trod_stays hl hr hrow h (fun x hx => hb.same (hlt x hx)) hs
end

/-! ### strings of bytes -/
theorem conv_bytes {P : Program} {src dst e : TypeId} (hs : P.underlying src = some (.slice e)) (he : P.underlying e = some (.int .u8)) (hd : P.underlying dst = some .string) (w : World) (A : Option Addr) (l : List UInt8) (c : Nat) (h : Rb w A l) (hA : A = none → c = 0) :
    (convert src dst (.slice A l.length c)).run P w = .ok (.string ⟨l.toArray⟩) w := by
  cases A with
  | none =>
    obtain rfl := hA rfl
    rw [h.none_]
    rw [run_convert_bytes_string w src dst e none _ 0 hs he hd]
    rfl
  | some ad =>
    refine run_convert_bytes_back w src dst e ad c l hs he hd fun j hj => ?_
    obtain ⟨b, off, h1, _, h3⟩ := h.cell hj
    injection h1 with h1
    subst h1
    rw [add_plain]; exact h3
end Go.Proofs.YtkhcneacjnpcnaaDoor
