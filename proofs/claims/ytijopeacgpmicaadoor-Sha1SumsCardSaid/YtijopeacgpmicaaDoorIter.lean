/- A range over a function whose iterator writes memory of its own: what each side owes the other. -/
import Derived.Test.YtijopeacgpmicaaDoorErr
import Derived.RangeFuncFrom
import Derived.RangeFuncBound
import Derived.RangeFuncCalls
import Derived.RangeFuncLeaves
namespace Go.Proofs.YtijopeacgpmicaaDoor
open Go.RowKit
set_option linter.unusedVariables false

section
variable {F : Fence} {n : Nat} {P : Program}

/-- All cells but one's own lie as they lay. -/
def Keeps (own : Nat → Prop) (A B : World) : Prop := ∀ j o, ¬ own j → A.heap[j]? = some o → o.isCells = true → B.heap[j]? = some o
theorem Keeps.refl (own : Nat → Prop) (A : World) : Keeps own A A := fun _ _ _ h _ => h
theorem Keeps.trans {own : Nat → Prop} {A B C : World} (h : Keeps own A B) (k : Keeps own B C) : Keeps own A C := fun j o h1 h2 h3 => k j o h1 (h j o h1 h2 h3) h3
theorem Keeps.at_ {own : Nat → Prop} {A B : World} {l : Nat} {o : Obj} (h : A.heap[l]? = some o) (hc : o.isCells = false) (hs : ∀ j, j ≠ l → B.heap[j]? = A.heap[j]?) : Keeps own A B := fun j o' _ h2 h3 => by
  by_cases e : j = l
  · subst e
    rw [h] at h2
    cases h2
    rw [hc] at h3; cases h3
  · rw [hs j e]; exact h2
theorem Keeps.below {own : Nat → Prop} {A B : World} (h : Below A.heap.size A B) : Keeps own A B := fun j o _ h2 _ => (h.block j (Array.getElem?_eq_some_iff.1 h2).1).trans h2
/-- An iterator gives the values xs; its caller keeps all cells but its own; what the iterator turns lies beyond its own beginning. -/
def Gives {α : Type} (F : Fence) (n : Nat) (P : Program) (g : Nat) (lb : Array Value) (encs : α → Array Value) (own : Nat → Prop) (xs : List α) (w : World) : Prop :=
  ∀ (l : Nat) (J : Nat → World → Prop) (W : World), Below w.heap.size w W → (∀ k A B, J k A → Below W.heap.size A B → J k B) →
    (∀ k x A, J k A → xs[k]? = some x → YieldAt F (n - 1) P l (encs x) A fun e B => e = .returned (.bool true) ∧ J (k + 1) B ∧ Keeps own A B ∧ A.heap.size ≤ B.heap.size) →
    J 0 W → CallsIn F n P g (#[.func (.yield l) #[] #[]] ++ lb) W fun e B => (∃ v, e = .returned v) ∧ J xs.length B

theorem put_below {W : World} {l B : Nat} (o : Obj) (h : B ≤ l) : Below B W (W.putObj l o) :=
  ⟨rfl, rfl, rfl, by simp [World.putObj], fun k hk => World.putObj_heap_other (by omega)⟩
theorem put_size (W : World) (l : Nat) (o : Obj) : (W.putObj l o).heap.size = W.heap.size := by simp [World.putObj]

theorem range_gives {α : Type} {g : Operand} {ps : Array Tmp} {assign body : Code} {Q : Exit → Act → World → Prop} {a : Act} {w : World}
    (hro : F.round = none) (h1 : 1 ≤ n) {gf : Nat} {lb : Array Value} (hg : a.eval g = .func (.func gf) #[] lb) (hFg : F.fn gf) (eg : ∀ args w, (callFunc gf args).run P w = .ok (.enter gf args) w)
    {encs : α → Array Value} {own : Nat → Prop} {xs : List α} {w0 : World} (hseq : Gives F (n - 1) P gf lb encs own xs w0) (hb0 : Below w0.heap.size w0 w) (hps : ∀ x, (encs x).size = ps.size)
    (I : Nat → World → Prop) (hI : ∀ k A B, I k A → Below w.heap.size A B → I k B) (h0 : I 0 w)
    (hround : ∀ (l k : Nat) (x : α) (W : World), I k W → xs[k]? = some x → w.heap.size ≤ l → l < W.heap.size →
      assign.wpIn (F.inRound l) (n - 1 - 1) P (Exit.then (fun a1 w1 => KeepsOthers W w1 ∧ Keeps own W w1 ∧ I k w1 ∧
        ∀ w2, (∀ j, j ≠ l → w2.heap[j]? = w1.heap[j]?) → w2.heap.size = w1.heap.size → Below w.heap.size w1 w2 →
          body.wpIn (F.inRound l) (n - 1 - 1) P (fun e _ w3 => e = .normal ∧ KeepsOthers w2 w3 ∧ Keeps own w2 w3 ∧ I (k + 1) w3) a1 w2) (fun _ _ _ => False))
        { tmps := (ps.zip (encs x)).foldl (fun t (p, v) => t.setIfInBounds p v) a.tmps, defers := [] } W)
    (hdone : ∀ (D : Nat) (W : World), w.heap.size ≤ D → I xs.length W → W.heap[D]? = some (.deferred (some [])) → Q .normal { a with defers := { target := .collected D, args := #[] } :: a.defers } W) :
    (Code.rangeFunc g ps assign body).wpIn F n P Q a w := by
  refine wpIn_rangeFunc fun fn hfn => ?_
  rw [hro]
  obtain ⟨B0, hB0⟩ : ∃ B0, B0 = w.heap.size := ⟨_, rfl⟩
  let rc : LoopState → Loop := fun st => { state := st, pending := none, fn := fn, tmps := a.tmps, params := ps, assign := assign, body := body, defers := w.heap.size }
  obtain ⟨W1, hW1⟩ : ∃ W1, W1 = (w.alloc (.deferred (some []))).alloc (.loop (rc .ready)) := ⟨_, rfl⟩
  have sz : W1.heap.size = w.heap.size + 2 := by rw [hW1]; simp
  have cl : W1.heap[w.heap.size + 1]? = some (.loop (rc .ready)) := by
    have := World.alloc_heap_new (w.alloc (.deferred (some []))) (.loop (rc .ready))
    rw [World.size_alloc] at this
    rw [hW1]; exact this
  have cd : W1.heap[w.heap.size]? = some (.deferred (some [])) := by
    rw [hW1]; exact (Below.heap_alloc _ _ _ (by simp)).trans (World.alloc_heap_new w _)
  have b1 : Below w.heap.size w W1 := by rw [hW1]; exact ((Below.refl _ w).alloc (Nat.le_refl _) _).alloc (by simp) _
  refine ⟨w.heap.size + 1, [{ target := .collected w.heap.size, args := #[] }], W1, { target := .fn (.func gf) lb, args := #[.func (.yield (w.heap.size + 1)) #[] #[]] }, W1, gf,
    #[.func (.yield (w.heap.size + 1)) #[] #[]] ++ lb, W1, ?_, ?_, ?_, ?_, fun _ => h1, ?_⟩
  · rw [hW1]; exact run_enterLoop_outer _ _ _ _ _
  · simp only [resolve, hg]
    simp [go_sem]
  · intro f' hf'; simp [Target.leads] at hf'; subst hf'; exact hFg
  · simp [invoke, go_sem, eg]
  · refine (hseq (w.heap.size + 1) (fun k W => I k W ∧ W.heap[w.heap.size + 1]? = some (.loop (rc .ready)) ∧ W.heap[w.heap.size]? = some (.deferred (some []))) W1 (hb0.trans (b1.mono hb0.size))
      (fun k A B hk hb => ⟨hI k A B hk.1 (hb.mono (by omega)), (hb.block _ (by omega)).trans hk.2.1, (hb.block _ (by omega)).trans hk.2.2⟩) ?_ ⟨hI 0 w W1 h0 b1, cl, cd⟩).mono ?_
    · rintro k x W ⟨hi, hl, hd⟩ hx
      have hlt : w.heap.size + 1 < W.heap.size := (Array.getElem?_eq_some_iff.1 hl).1
      refine ⟨fn, _, assign, body, run_yield (P := P) (args := encs x) hl (hps x), roundIn_of_wpIn hfn (wpIn_mono (hround (w.heap.size + 1) k x W hi hx (by omega) hlt) ?_)⟩
      rintro e a1 w1 he
      cases e with
      | normal =>
        obtain ⟨o1, k1, i1, hbody⟩ := he
        have l1 := o1.same _ _ hl rfl
        have d1 := o1.same _ _ hd rfl
        have lt1 := (Array.getElem?_eq_some_iff.1 l1).1
        refine ⟨_, run_beginRound l1 rfl, wpIn_mono (hbody _ (fun j hj => World.putObj_heap_other hj) (put_size _ _ _) (put_below _ (by omega))) ?_⟩
        rintro e a3 w3 ⟨rfl, o3, k3, i3⟩
        have l2 : (w1.putObj (w.heap.size + 1) (.loop { rc .ready with state := .busy })).heap[w.heap.size + 1]? = some (.loop (rc .busy)) := World.putObj_heap_same lt1
        have d2 : (w1.putObj (w.heap.size + 1) (.loop { rc .ready with state := .busy })).heap[w.heap.size]? = some (.deferred (some [])) := (World.putObj_heap_other (by omega)).trans d1
        have l3 := o3.same _ _ l2 rfl
        have d3 := o3.same _ _ d2 rfl
        have lt3 := (Array.getElem?_eq_some_iff.1 l3).1
        refine ⟨_, _, run_endRound (P := P) none l3, rfl, ⟨hI _ _ _ i3 (put_below _ (by omega)), World.putObj_heap_same lt3, (World.putObj_heap_other (by omega)).trans d3⟩, ?_, ?_⟩
        · have s2 : Keeps own w1 (w1.putObj (w.heap.size + 1) (.loop { rc .ready with state := .busy })) := Keeps.at_ l1 rfl fun j hj => World.putObj_heap_other hj
          have s4 : Keeps own w3 (w3.putObj (w.heap.size + 1) (.loop { rc .busy with state := if (none : Option Code).isNone then .ready else .done, pending := none })) := Keeps.at_ l3 rfl fun j hj => World.putObj_heap_other hj
          exact k1.trans (s2.trans (k3.trans s4))
        · rw [put_size]
          have h2 := o3.size
          rw [put_size] at h2
          exact Nat.le_trans o1.size h2
      | ret => exact he.elim
      | exit id => exact he.elim
      | goto t => exact he.elim
      | panic c => exact he.elim
      | outgrown => exact he.elim
    · rintro e W2 ⟨⟨v, rfl⟩, hi, hl, hd⟩
      refine ⟨none, _, run_endLoop (P := P) hl (by simp [rc]), ?_⟩
      exact hdone w.heap.size _ (Nat.le_refl _) (hI _ _ _ hi (put_below _ (by omega))) ((World.putObj_heap_other (by omega)).trans hd)
end
end Go.Proofs.YtijopeacgpmicaaDoor
