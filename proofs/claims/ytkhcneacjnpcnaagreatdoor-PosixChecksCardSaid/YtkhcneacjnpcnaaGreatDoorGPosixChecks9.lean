/- Merged: Post, Row. -/
import Derived.Below
import Derived.ChangeSame
import Derived.Test.YtkhcneacjnpcnaaGreatDoorGPosixChecks3
import Derived.ChangeSlices
import Derived.WideKeyArgs
import Derived.WideKeyPair
import Derived.Carry
import Derived.Laws.IdiomStrings
import Derived.Laws.BytesArg
import Derived.Laws.OwnMore
import Derived.Maps.AppendAt
import Derived.OwnWalk
namespace Go.Proofs.YtkhcneacjnpcnaaGreatDoor
open Go.RowKit Go.WideShapes Go.ChangeShapes
section
variable {H : Type} {enc : TypeId × Value → H} {P : Program}

/-- Places met before the call, told again behind it. -/
theorem told_again {W W' : World} {l la lv : List MemPlace} (e : l = la ++ lv) (h : Below W.heap.size W W') (hl : ∀ p ∈ l, p.block < W.heap.size)
    (hz : ∀ b o, MemPlace.cell b o ∈ l → W.frozen? ⟨b, o, none⟩ = false) : ∀ b o, MemPlace.cell b o ∈ ([] ++ la) ++ lv → W'.frozen? ⟨b, o, none⟩ = false := fun b o hp => by
  have hin : MemPlace.cell b o ∈ l := by rw [e]; simpa using hp
  rw [h.frozen (p := ⟨b, o, none⟩) (hl _ hin)]
  exact hz b o hin

theorem post_under {f : Func} {s : ChangeSpec} {x1 x2 x3 x4 : Bool} {W W' : World} {ags : Array Value} {r : Value} {ds gs : List (DataW H)} {l la lv : List MemPlace}
    (hW : DataW.Whole enc P f.params.toList s.vars x1 W ags.toList ds gs l)
    (hr : ∀ (b : Nat) (sp : Nat → Bool) (hd : Bool), DataW.TrodAll enc P W' b sp hd f.resultTypes.toList (r.resultList f.resultTypes.size) (s.fn H (ds ++ gs)).results [])
    (ha : ∀ sp : Nat → Bool, (∀ p ∈ l, sp p.block = true) → DataW.TrodAll enc P W' 0 sp true f.params.toList ags.toList (s.fn H (ds ++ gs)).args la)
    (hv : ∀ sp : Nat → Bool, (∀ p ∈ l, sp p.block = true) → DataW.TrodVars enc P W' sp s.vars (s.fn H (ds ++ gs)).vars lv)
    (e : l = la ++ lv) (h : Below W.heap.size W W')
    (ok : ∀ (j : Nat) (t : TypeId) (q : Value), f.resultTypes[j]? = some t → (r.resultList f.resultTypes.size)[j]? = some q → Value.okWide P W' .any 0 t q) :
    s.post enc P f x1 x2 x3 x4 W ags r W' := by
  have lt : ∀ p ∈ l, p.block < W.heap.size := fun p hp => hW.lt p hp
  have old : ∀ p ∈ l, (fun b => decide (b < W.heap.size)) p.block = true := fun p hp => by simpa using lt p hp
  have mid : ∀ p, p ∈ l → p ∈ la ∨ p ∈ lv := fun p hp => by rw [e, List.mem_append] at hp; exact hp
  refine ⟨ds, gs, l, [], la, lv, hW, hr _ _ _, ha _ old, hv _ old, World.keptBut_mono (fun p hp => ⟨hp, ?_⟩) (h.frame (· ∈ l)), fun _ => ?_⟩
  · exact Or.inr (mid p hp)
  · obtain ⟨_, _, _, _, _, hz, hn⟩ := hW
    refine ⟨ok, _, _, ([] ++ la) ++ lv, ⟨[] ++ la, lv, trodAll_append (ha _ (fun _ _ => rfl)) (hr _ _ _), hv _ (fun _ _ => rfl), rfl, told_again e h lt hz, fun hx => ?_⟩, fun p hp _ => ?_⟩
    · have k := hn hx
      rw [e] at k
      simpa using k
    · rw [e]
      simpa using hp
end
end Go.Proofs.YtkhcneacjnpcnaaGreatDoor

namespace Go.Proofs.YtkhcneacjnpcnaaGreatDoor
open Go.RowKit Go.WideShapes Go.ChangeShapes
set_option linter.unusedVariables false

/-- The slice at A reads as the numbers zs, of kind k. -/
def Rz (k : IntKind) (w : World) (A : Option Addr) (zs : List Int) : Prop :=
  (∀ z ∈ zs, (Lit.int k z).wf = true) ∧ (zs = [] ∨ ∃ b off, A = some ⟨b, off, none⟩ ∧ b < w.heap.size ∧ ∀ j z, zs[j]? = some z → w.cell? ⟨b, off + j, none⟩ = some (.int k z))
theorem Rz.below {k : IntKind} {w w' : World} {A : Option Addr} {zs : List Int} (h : Rz k w A zs) (hb : Below w.heap.size w w') : Rz k w' A zs := by
  refine ⟨h.1, ?_⟩
  rcases h.2 with h0 | ⟨b, off, h1, h2, h3⟩
  · exact .inl h0
  · exact .inr ⟨b, off, h1, Nat.lt_of_lt_of_le h2 hb.size, fun j z hz => (hb.cell (p := ⟨b, off + j, none⟩) h2).trans (h3 j z hz)⟩
theorem Rz.drewN {k : IntKind} {w : World} {A : Option Addr} {zs : List Int} (h : Rz k w A zs) (n : Nat) : Rz k (w.drewN n) A zs := h
theorem Rz.cell {k : IntKind} {w : World} {A : Option Addr} {zs : List Int} (h : Rz k w A zs) {i : Nat} (hi : i < zs.length) : ∃ b off, A = some ⟨b, off, none⟩ ∧ b < w.heap.size ∧ w.cell? ⟨b, off + i, none⟩ = some (.int k zs[i]) := by
  rcases h.2 with h0 | ⟨b, off, h1, h2, h3⟩
  · rw [h0] at hi; simp at hi
  · exact ⟨b, off, h1, h2, h3 i _ (List.getElem?_eq_getElem hi)⟩
/-- Bytes as numbers. -/
def nums (l : List UInt8) : List Int := l.map fun b => (b.toNat : Int)
theorem nums_len (l : List UInt8) : (nums l).length = l.length := by simp [nums]
/-- The slice at A reads as the bytes l. -/
def Rb (w : World) (A : Option Addr) (l : List UInt8) : Prop := Rz .u8 w A (nums l)
theorem Rb.below {w w' : World} {A : Option Addr} {l : List UInt8} (h : Rb w A l) (hb : Below w.heap.size w w') : Rb w' A l := Rz.below h hb
theorem Rb.drewN {w : World} {A : Option Addr} {l : List UInt8} (h : Rb w A l) (n : Nat) : Rb (w.drewN n) A l := h
theorem Rb.cell {w : World} {A : Option Addr} {l : List UInt8} (h : Rb w A l) {i : Nat} (hi : i < l.length) : ∃ b off, A = some ⟨b, off, none⟩ ∧ b < w.heap.size ∧ w.cell? ⟨b, off + i, none⟩ = some (.int .u8 (l[i].toNat : Int)) := by
  obtain ⟨b, off, h1, h2, h3⟩ := Rz.cell h (i := i) (by rw [nums_len]; exact hi)
  refine ⟨b, off, h1, h2, ?_⟩
  rw [h3]; simp [nums]
theorem Rb.nil {w : World} (A : Option Addr) : Rb w A [] := ⟨(fun z hz => by simp [nums] at hz), .inl rfl⟩

section
variable {H : Type} {enc : TypeId × Value → H} {P : Program}
/-- An argument reads behind the call as it did. -/
theorem argstays {W W' : World} {t : TypeId} {v : Value} {d : DataW H} {ps : List MemPlace} {sp : Nat → Bool} (hl : laidOutB P = true) (hr : P.readableRec t = true) (hrow : t < P.types.size)
    (h : DataW.Trod enc P W 0 (fun _ => true) true t v d ps) (hb : Below W.heap.size W W') (hlt : ∀ x ∈ ps, x.block < W.heap.size) (hs : ∀ x ∈ ps, sp x.block = true) : DataW.Trod enc P W' 0 sp true t v d ps :=
  WideElems.Trod_stays hl hr hrow h (fun x hx => hb.same (hlt x hx)) hs
end

/-! ### strings of bytes -/
end Go.Proofs.YtkhcneacjnpcnaaGreatDoor
