/- Merged: Shelf, FigB, FigC, Post, Row, Own. -/
import Derived.Shelf.Strings.Builder1
import Derived.Shelf.Strings.Builder2
import Derived.Shelf.Small.Wraps
import Derived.Shelf.Strings.BuilderF
import Derived.Shelf.Strconv.Itoa0
import Derived.Shelf.Strconv.Itoa1
import Derived.Shelf.LaysM
import Derived.Shelf.Strconv.Itoa2
import Derived.Shelf.Strconv.Itoa3
import Derived.Shelf.Strconv.Itoa4
import Derived.Shelf.Strings.Prefix
import Derived.Shelf.Bits.Mul64
import Derived.Shelf.Strings.Repeat
import Derived.Shelf.Small.Strs
import Derived.Shelf.Strings.Search1
import Derived.Test.YtkhcneacjnpcnaaRows
import Derived.Test.YtkhcneacjnpcnaaGPosixParses3
import Derived.Lib.SmallJoins
import Derived.Lib.AppendIntMem
import Derived.Below
import Derived.ChangeSame
import Derived.Test.YtkhcneacjnpcnaaGPosixParses2
import Derived.ChangeSlices
import Derived.WideKeyArgs
import Derived.WideKeyPair
import Derived.Carry
import Derived.Laws.IdiomStrings
import Derived.Laws.BytesArg
import Derived.Laws.OwnMore
import Derived.Maps.AppendAt
import Derived.OwnWalk
import Derived.Laws.AppendOwnNone
import Derived.Deep.RegionLaw
namespace Go.Proofs.Ytkhcneacjnpcnaa
open Go.Shelf
def Try.lays137_ren : Go.Shelf.Ren := ⟨fun | 137 => 53 | 217 => 61 | 266 => 65 | n => n, fun | 9 => 9 | 5 => 5 | 3 => 3 | n => n, fun | n => n⟩
theorem Try.lays137 : Go.Proofs.Lays.n137 Try.prog Try.lays137_ren := {
  mixed := by kernel_rfl
  f137 := Try.func53.trans (congrArg some (by kernel_rfl))
  f217 := Try.func61.trans (congrArg some (by kernel_rfl))
  f266 := Try.func65.trans (congrArg some (by kernel_rfl))
  t3 := Try.underlying3
  a3 := Try.isAgg3
  z3 := Try.sizeOf3
  v3 := Try.zeroValue3
  t5 := Try.underlying5
  a5 := Try.isAgg5
  z5 := Try.sizeOf5
  v5 := Try.zeroValue5
  t9 := Try.underlying9
  a9 := Try.isAgg9
  z9 := Try.sizeOf9
  v9 := Try.zeroValue9 }
open Go.RowKit in
theorem Try.strings_IndexByte (s : ByteArray) (c : Int) (w : World) :
    Calls Try.prog 53 #[.string s, .int .u8 c] w fun e w' => e = .returned (.int .i64 (Lib.indexByte s.data.toList c.toNat.toUInt8)) ∧ w' = w := Any.strings_IndexByte Try.lays137 s c w
end Go.Proofs.Ytkhcneacjnpcnaa

namespace Go.Proofs.Ytkhcneacjnpcnaa
open Go.RowKit
set_option linter.unusedVariables false

/-- The greatest number, and one more. -/
def mx : Nat := 9223372036854775807
theorem mx_is : ((mx : Nat) : Int) = 9223372036854775807 := rfl
theorem ftake_any (s : ByteArray) (a b : Int) (w : World) (hs : s.size ≤ maxLen) (ha : fits a) (hb : fits b) :
    Calls Try.prog 66 #[.string s, .int .i64 a, .int .i64 b] w fun e w' =>
      e = .returned (.tuple #[.int .i64 (tkN s.data.toList a b mx : Nat), .int .i64 (tkK s.data.toList a b mx : Nat), ev (tkE s.data.toList a b mx)]) ∧ w = w' := by
  have ht := take_any s a b mx w hs ha hb (by decide) (by decide)
  rw [mx_is] at ht
  have hN := tkN_le s.data.toList a b mx
  generalize tkN s.data.toList a b mx = N at *
  generalize tkK s.data.toList a b mx = K at *
  generalize tkE s.data.toList a b mx = E at *
  have HT := Lib.hid ht
  have hN' : (N : Int) ≤ 9223372036854775807 := by have := mx_is; omega
  clear ht hN ha hb
  go_enter Try.func66, Try.ntmps66
  go_wp2_with (go_at_call 67; refine HT.out.mono ?_; rintro e w' ⟨rfl, rfl⟩)
  go_ret3
  exact ⟨rfl, rfl⟩

/-! ### the library's calls -/
/-! ### Signed -/
/-! ### Fraction -/
end Go.Proofs.Ytkhcneacjnpcnaa

namespace Go.Proofs.Ytkhcneacjnpcnaa
open Go.RowKit
set_option linter.unusedVariables false

def ptL (n width : Int) : List UInt8 :=
  if width < 0 ∨ 20 < width then [] else if n < 0 then 45 :: pad width.toNat (Lib.decDigits n.natAbs) else pad width.toNat (Lib.decDigits n.natAbs)

/-! ### PutFraction, Short -/
/-- Isn't it a fraction? -/
def nf (nano : Int) : Prop := nano < 0 ∨ 999999999 < nano
instance (n : Int) : Decidable (nf n) := by unfold nf; infer_instance
end Go.Proofs.Ytkhcneacjnpcnaa

namespace Go.Proofs.Ytkhcneacjnpcnaa
open Go.RowKit Go.WideShapes Go.ChangeShapes
section
variable {H : Type} {enc : TypeId × Value → H} {P : Program}

/-- Places met before the call, told again behind it. -/
theorem told_again {W W' : World} {l la lv : List MemPlace} (e : l = la ++ lv) (h : Below W.heap.size W W') (hl : ∀ p ∈ l, p.block < W.heap.size)
    (hz : ∀ b o, MemPlace.cell b o ∈ l → W.frozen? ⟨b, o, none⟩ = false) : ∀ b o, MemPlace.cell b o ∈ ([] ++ la) ++ lv → W'.frozen? ⟨b, o, none⟩ = false := fun b o hp => by
  have hin : MemPlace.cell b o ∈ l := by rw [e]; simpa using hp
  rw [h.frozen (p := ⟨b, o, none⟩) (hl _ hin)]
  exact hz b o hin

theorem post_under {f : Func} {s : ChangeSpec} {x1 x2 x3 x4 : Bool} {W W' : World} {ags : Array Value} {r : Value} {ds gs : List (DataW H)} {l la lv : List MemPlace}
    (hW : DataW.Whole enc P f.params.toList s.vars x1 W ags.toList ds gs l)
    (hr : ∀ (b : Nat) (sp : Nat → Bool) (hd : Bool), DataW.TrodAll enc P W' b sp hd f.resultTypes.toList (r.resultList f.resultTypes.size) (s.fn H (ds ++ gs)).results [])
    (ha : ∀ sp : Nat → Bool, (∀ p ∈ l, sp p.block = true) → DataW.TrodAll enc P W' 0 sp true f.params.toList ags.toList (s.fn H (ds ++ gs)).args la)
    (hv : ∀ sp : Nat → Bool, (∀ p ∈ l, sp p.block = true) → DataW.TrodVars enc P W' sp s.vars (s.fn H (ds ++ gs)).vars lv)
    (e : l = la ++ lv) (h : Below W.heap.size W W')
    (ok : ∀ (j : Nat) (t : TypeId) (q : Value), f.resultTypes[j]? = some t → (r.resultList f.resultTypes.size)[j]? = some q → Value.okWide P W' .any 0 t q) :
    s.post enc P f x1 x2 x3 x4 W ags r W' := by
  have lt : ∀ p ∈ l, p.block < W.heap.size := fun p hp => hW.lt p hp
  have old : ∀ p ∈ l, (fun b => decide (b < W.heap.size)) p.block = true := fun p hp => by simpa using lt p hp
  have mid : ∀ p, p ∈ l → p ∈ la ∨ p ∈ lv := fun p hp => by rw [e, List.mem_append] at hp; exact hp
  refine ⟨ds, gs, l, [], la, lv, hW, hr _ _ _, ha _ old, hv _ old, World.keptBut_mono (fun p hp => ⟨hp, ?_⟩) (h.frame (· ∈ l)), fun _ => ?_⟩
  · exact Or.inr (mid p hp)
  · obtain ⟨_, _, _, _, _, hz, hn⟩ := hW
    refine ⟨ok, _, _, ([] ++ la) ++ lv, ⟨[] ++ la, lv, trodAll_append (ha _ (fun _ _ => rfl)) (hr _ _ _), hv _ (fun _ _ => rfl), rfl, told_again e h lt hz, fun hx => ?_⟩, fun p hp _ => ?_⟩
    · have k := hn hx
      rw [e] at k
      simpa using k
    · rw [e]
      simpa using hp
end
end Go.Proofs.Ytkhcneacjnpcnaa

namespace Go.Proofs.Ytkhcneacjnpcnaa
open Go.RowKit Go.WideShapes Go.ChangeShapes
set_option linter.unusedVariables false

/-- The slice at A reads as the numbers zs, of kind k. -/
def Rz (k : IntKind) (w : World) (A : Option Addr) (zs : List Int) : Prop :=
  (∀ z ∈ zs, (Lit.int k z).wf = true) ∧ (zs = [] ∨ ∃ b off, A = some ⟨b, off, none⟩ ∧ b < w.heap.size ∧ ∀ j z, zs[j]? = some z → w.cell? ⟨b, off + j, none⟩ = some (.int k z))
theorem Rz.below {k : IntKind} {w w' : World} {A : Option Addr} {zs : List Int} (h : Rz k w A zs) (hb : Below w.heap.size w w') : Rz k w' A zs := by
  refine ⟨h.1, ?_⟩
  rcases h.2 with h0 | ⟨b, off, h1, h2, h3⟩
  · exact .inl h0
  · exact .inr ⟨b, off, h1, Nat.lt_of_lt_of_le h2 hb.size, fun j z hz => (hb.cell (p := ⟨b, off + j, none⟩) h2).trans (h3 j z hz)⟩
theorem Rz.drewN {k : IntKind} {w : World} {A : Option Addr} {zs : List Int} (h : Rz k w A zs) (n : Nat) : Rz k (w.drewN n) A zs := h
theorem Rz.cell {k : IntKind} {w : World} {A : Option Addr} {zs : List Int} (h : Rz k w A zs) {i : Nat} (hi : i < zs.length) : ∃ b off, A = some ⟨b, off, none⟩ ∧ b < w.heap.size ∧ w.cell? ⟨b, off + i, none⟩ = some (.int k zs[i]) := by
  rcases h.2 with h0 | ⟨b, off, h1, h2, h3⟩
  · rw [h0] at hi; simp at hi
  · exact ⟨b, off, h1, h2, h3 i _ (List.getElem?_eq_getElem hi)⟩
/-- Bytes as numbers. -/
def nums (l : List UInt8) : List Int := l.map fun b => (b.toNat : Int)
theorem nums_len (l : List UInt8) : (nums l).length = l.length := by simp [nums]
/-- The slice at A reads as the bytes l. -/
def Rb (w : World) (A : Option Addr) (l : List UInt8) : Prop := Rz .u8 w A (nums l)
theorem Rb.below {w w' : World} {A : Option Addr} {l : List UInt8} (h : Rb w A l) (hb : Below w.heap.size w w') : Rb w' A l := Rz.below h hb
theorem Rb.drewN {w : World} {A : Option Addr} {l : List UInt8} (h : Rb w A l) (n : Nat) : Rb (w.drewN n) A l := h
theorem Rb.cell {w : World} {A : Option Addr} {l : List UInt8} (h : Rb w A l) {i : Nat} (hi : i < l.length) : ∃ b off, A = some ⟨b, off, none⟩ ∧ b < w.heap.size ∧ w.cell? ⟨b, off + i, none⟩ = some (.int .u8 (l[i].toNat : Int)) := by
  obtain ⟨b, off, h1, h2, h3⟩ := Rz.cell h (i := i) (by rw [nums_len]; exact hi)
  refine ⟨b, off, h1, h2, ?_⟩
  rw [h3]; simp [nums]
theorem Rb.nil {w : World} (A : Option Addr) : Rb w A [] := ⟨(fun z hz => by simp [nums] at hz), .inl rfl⟩

section
variable {H : Type} {enc : TypeId × Value → H} {P : Program}
end

/-! ### strings of bytes -/
end Go.Proofs.Ytkhcneacjnpcnaa

namespace Go.Proofs.Ytkhcneacjnpcnaa
open Go.RowKit Go.WideShapes Go.ChangeShapes
set_option linter.unusedVariables false

def cz (k : IntKind) (zs : List Int) : List Value := zs.map fun z => Value.int k z
/-- The value v is a row of the call's own that holds the numbers zs. -/
def Oz (w : World) (base : Nat) (e : TypeId) (k : IntKind) (v : Value) (zs : List Int) : Prop := w.ownsRow base e 1 v zs.length (cz k zs)
theorem Oz.below {w w' : World} {base B : Nat} {e : TypeId} {k : IntKind} {v : Value} {zs : List Int} (h : Oz w base e k v zs) (hb : Below B w w') (hB : w.heap.size ≤ B) : Oz w' base e k v zs := by
  refine ⟨h.1, ?_⟩
  rcases h.2 with h0 | ⟨g, cap, cur, h1, h2, h3, h4⟩
  · exact .inl h0
  · refine .inr ⟨g, cap, cur, h1, h2, ?_, h4⟩
    have hlt : g < w.heap.size := by
      rcases Nat.lt_or_ge g w.heap.size with hlt | hge
      · exact hlt
      · rw [Array.getElem?_eq_none hge] at h3; cases h3
    rw [hb.block g (by omega)]; exact h3
theorem Oz.drewN {w : World} {base : Nat} {e : TypeId} {k : IntKind} {v : Value} {zs : List Int} (h : Oz w base e k v zs) (n : Nat) : Oz (w.drewN n) base e k v zs := h
theorem Oz.nil {w : World} (base : Nat) (e : TypeId) (k : IntKind) : Oz w base e k (.slice none 0 0) [] := ⟨rfl, .inl ⟨rfl, rfl⟩⟩
/-- It reads as its numbers. -/
theorem Oz.reads {w : World} {base : Nat} {e : TypeId} {k : IntKind} {v : Value} {zs : List Int} (h : Oz w base e k v zs) (hf : ∀ z ∈ zs, (Lit.int k z).wf = true) :
    ∃ A c, v = .slice A zs.length c ∧ Rz k w A zs ∧ (A = none → c = 0) ∧ zs.length ≤ c ∧ c ≤ maxLen := by
  rcases h.2 with ⟨hv, hn⟩ | ⟨g, cap, cur, hv, hb, hh, hc, hm, _, _⟩
  · obtain rfl : zs = [] := List.eq_nil_of_length_eq_zero hn
    exact ⟨none, 0, hv, ⟨hf, .inl rfl⟩, fun _ => rfl, Nat.le_refl _, by decide⟩
  · refine ⟨_, cap, hv, ⟨hf, .inr ⟨g, 0, rfl, ?_, fun j z hj => ?_⟩⟩, (fun h => by cases h), hc, hm⟩
    · rcases Nat.lt_or_ge g w.heap.size with hlt | hge
      · exact hlt
      · rw [Array.getElem?_eq_none hge] at hh; cases hh
    · have hz : (cz k zs)[j]? = some (.int k z) := by unfold cz; rw [List.getElem?_map, hj]; rfl
      have := World.ownsRow.cells h (g := g) (by rw [hv]; rfl) j _ hz
      rw [← this]
      unfold Addr.add
      by_cases h0 : j = 0
      · subst h0; rfl
      · simp [h0]
theorem Oz.block {w : World} {base : Nat} {e : TypeId} {k : IntKind} {v : Value} {zs : List Int} (h : Oz w base e k v zs) : ∀ g, v.ownBlock = some g → base ≤ g := by
  intro g hg
  rcases h.2 with ⟨hv, _⟩ | ⟨g', cap, cur, hv, hb, _⟩
  · rw [hv] at hg; simp [Value.ownBlock] at hg
  · rw [hv] at hg
    have : g' = g := by simpa [Value.ownBlock] using hg
    omega

end Go.Proofs.Ytkhcneacjnpcnaa
