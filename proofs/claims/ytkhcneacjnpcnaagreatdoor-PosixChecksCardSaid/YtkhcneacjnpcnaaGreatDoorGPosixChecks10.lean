/- Merged: Own. -/
import Derived.Test.YtkhcneacjnpcnaaGreatDoorGPosixChecks9
import Derived.Laws.AppendOwnNone
import Derived.Deep.RegionLaw
namespace Go.Proofs.YtkhcneacjnpcnaaGreatDoor
open Go.RowKit Go.WideShapes Go.ChangeShapes
set_option linter.unusedVariables false

def cz (k : IntKind) (zs : List Int) : List Value := zs.map fun z => Value.int k z
/-- The value v is a row of the call's own that holds the numbers zs. -/
def Oz (w : World) (base : Nat) (e : TypeId) (k : IntKind) (v : Value) (zs : List Int) : Prop := w.ownsRow base e 1 v zs.length (cz k zs)
theorem Oz.below {w w' : World} {base B : Nat} {e : TypeId} {k : IntKind} {v : Value} {zs : List Int} (h : Oz w base e k v zs) (hb : Below B w w') (hB : w.heap.size ≤ B) : Oz w' base e k v zs := by
  refine ⟨h.1, ?_⟩
  rcases h.2 with h0 | ⟨g, cap, cur, h1, h2, h3, h4⟩
  · exact .inl h0
  · refine .inr ⟨g, cap, cur, h1, h2, ?_, h4⟩
    have hlt : g < w.heap.size := by
      rcases Nat.lt_or_ge g w.heap.size with hlt | hge
      · exact hlt
      · rw [Array.getElem?_eq_none hge] at h3; cases h3
    rw [hb.block g (by omega)]; exact h3
theorem Oz.drewN {w : World} {base : Nat} {e : TypeId} {k : IntKind} {v : Value} {zs : List Int} (h : Oz w base e k v zs) (n : Nat) : Oz (w.drewN n) base e k v zs := h
theorem Oz.nil {w : World} (base : Nat) (e : TypeId) (k : IntKind) : Oz w base e k (.slice none 0 0) [] := ⟨rfl, .inl ⟨rfl, rfl⟩⟩
/-- It reads as its numbers. -/
theorem Oz.reads {w : World} {base : Nat} {e : TypeId} {k : IntKind} {v : Value} {zs : List Int} (h : Oz w base e k v zs) (hf : ∀ z ∈ zs, (Lit.int k z).wf = true) :
    ∃ A c, v = .slice A zs.length c ∧ Rz k w A zs ∧ (A = none → c = 0) ∧ zs.length ≤ c ∧ c ≤ maxLen := by
  rcases h.2 with ⟨hv, hn⟩ | ⟨g, cap, cur, hv, hb, hh, hc, hm, _, _⟩
  · obtain rfl : zs = [] := List.eq_nil_of_length_eq_zero hn
    exact ⟨none, 0, hv, ⟨hf, .inl rfl⟩, fun _ => rfl, Nat.le_refl _, by decide⟩
  · refine ⟨_, cap, hv, ⟨hf, .inr ⟨g, 0, rfl, ?_, fun j z hj => ?_⟩⟩, (fun h => by cases h), hc, hm⟩
    · rcases Nat.lt_or_ge g w.heap.size with hlt | hge
      · exact hlt
      · rw [Array.getElem?_eq_none hge] at hh; cases hh
    · have hz : (cz k zs)[j]? = some (.int k z) := by unfold cz; rw [List.getElem?_map, hj]; rfl
      have := World.ownsRow.cells h (g := g) (by rw [hv]; rfl) j _ hz
      rw [← this]
      unfold Addr.add
      by_cases h0 : j = 0
      · subst h0; rfl
      · simp [h0]
theorem Oz.block {w : World} {base : Nat} {e : TypeId} {k : IntKind} {v : Value} {zs : List Int} (h : Oz w base e k v zs) : ∀ g, v.ownBlock = some g → base ≤ g := by
  intro g hg
  rcases h.2 with ⟨hv, _⟩ | ⟨g', cap, cur, hv, hb, _⟩
  · rw [hv] at hg; simp [Value.ownBlock] at hg
  · rw [hv] at hg
    have : g' = g := by simpa [Value.ownBlock] using hg
    omega

end Go.Proofs.YtkhcneacjnpcnaaGreatDoor
