/- Merged: IterS. -/
import Derived.Test.YtiamggjebaabkaaGreatDoorGListRemarks26
namespace Go.Proofs.YtiamggjebaabkaaGreatDoor
open Go.RowKit
set_option linter.unusedVariables false

section
variable {F : Fence} {n : Nat} {P : Program}

/-- The book-keeping of a loop: what lies below lo, and all cells, lie as they lay. -/
structure Book (lo : Nat) (A B : World) : Prop where
  os : B.os = A.os
  tape : B.tape = A.tape
  output : B.output = A.output
  size : A.heap.size ≤ B.heap.size
  keep : ∀ j o, A.heap[j]? = some o → (j < lo ∨ o.isCells = true) → B.heap[j]? = some o
theorem Book.bel {lo : Nat} {A B : World} (h : Book lo A B) (hl : lo ≤ A.heap.size) : Below lo A B :=
  ⟨h.os, h.tape, h.output, h.size, fun j hj => by
    have e : A.heap[j]? = some A.heap[j] := Array.getElem?_eq_getElem (by omega)
    rw [e]; exact h.keep j _ e (.inl hj)⟩
theorem Book.trans {lo : Nat} {A B C : World} (h : Book lo A B) (k : Book lo B C) : Book lo A C :=
  ⟨k.os.trans h.os, k.tape.trans h.tape, k.output.trans h.output, Nat.le_trans h.size k.size, fun j o h1 h2 => k.keep j o (h.keep j o h1 h2) h2⟩
theorem Book.of_below {lo : Nat} {A B : World} (h : Below A.heap.size A B) : Book lo A B :=
  ⟨h.os, h.tape, h.output, h.size, fun j o h1 _ => (h.block j (Array.getElem?_eq_some_iff.1 h1).1).trans h1⟩
theorem Book.put {lo : Nat} {A : World} {l : Nat} {o : Obj} (o' : Obj) (hl : lo ≤ l) (h : A.heap[l]? = some o) (hc : o.isCells = false) : Book lo A (A.putObj l o') := by
  have b := put_below (W := A) o' (Nat.le_refl l)
  refine ⟨b.os, b.tape, b.output, b.size, fun j u h1 h2 => ?_⟩
  by_cases e : j = l
  · subst e
    rw [h] at h1
    injection h1 with h1
    subst h1
    rcases h2 with h2 | h2
    · omega
    · rw [hc] at h2; cases h2
  · exact (World.putObj_heap_other e).trans h1
/-- An iterator gives the values xs until it is told to stop; its caller keeps all cells but its own; what the iterator turns is the box Bs, or lies beyond its own beginning. -/
def Stops {α : Type} (F : Fence) (n : Nat) (P : Program) (g : Nat) (lb : Array Value) (encs : α → Array Value) (own : Nat → Prop) (Bs : Nat) (xs : List α) (w : World) : Prop :=
  ∀ (l : Nat) (J : Nat → World → Prop) (Jx : World → Prop) (W : World), Below w.heap.size w W →
    (∀ k A i v, J k A → J k (A.setCell ⟨Bs, i, none⟩ v)) →
    (∀ k x A, J k A → xs[k]? = some x → YieldAt F (n - 1) P l (encs x) A fun e B => (e = .returned (.bool true) ∧ J (k + 1) B ∧ Keeps own A B ∧ A.heap.size ≤ B.heap.size) ∨ (e = .returned (.bool false) ∧ Jx B)) →
    J 0 W → CallsIn F n P g (#[.func (.yield l) #[] #[]] ++ lb) W fun e B => (∃ v, e = .returned v) ∧ (J xs.length B ∨ Jx B)

theorem range_stops {α : Type} {g : Operand} {ps : Array Tmp} {assign body : Code} {Q : Exit → Act → World → Prop} {a : Act} {w : World}
    (hro : F.round = none) (h1 : 1 ≤ n) {gf : Nat} {lb : Array Value} (hg : a.eval g = .func (.func gf) #[] lb) (hFg : F.fn gf) (eg : ∀ args w, (callFunc gf args).run P w = .ok (.enter gf args) w)
    {encs : α → Array Value} {own : Nat → Prop} {Bs : Nat} {xs : List α} {w0 : World} (hseq : Stops F (n - 1) P gf lb encs own Bs xs w0) (hb0 : Below w0.heap.size w0 w) (hBs : Bs < w.heap.size) (hps : ∀ x, (encs x).size = ps.size)
    (I : Nat → World → Prop) (Ix : World → Prop) (hI : ∀ k A B, I k A → Book w.heap.size A B → I k B) (hIx : ∀ A B, Ix A → Book w.heap.size A B → Ix B) (hIs : ∀ k A i v, I k A → I k (A.setCell ⟨Bs, i, none⟩ v)) (h0 : I 0 w)
    (hround : ∀ (l k : Nat) (x : α) (W : World), I k W → xs[k]? = some x → w.heap.size ≤ l → (∃ o : Obj, W.heap[l]? = some o ∧ o.isCells = false) →
      assign.wpIn (F.inRound l) (n - 1 - 1) P (Exit.then (fun a1 w1 => KeepsOthers W w1 ∧ Keeps own W w1 ∧ I k w1 ∧
        ∀ w2, (∀ j, j ≠ l → w2.heap[j]? = w1.heap[j]?) → w2.heap.size = w1.heap.size → Book w.heap.size w1 w2 →
          body.wpIn (F.inRound l) (n - 1 - 1) P (fun e _ w3 => KeepsOthers w2 w3 ∧ ((e = .normal ∧ Keeps own w2 w3 ∧ I (k + 1) w3) ∨ (e = .ret ∧ Ix w3))) a1 w2) (fun _ _ _ => False))
        { tmps := (ps.zip (encs x)).foldl (fun t (p, v) => t.setIfInBounds p v) a.tmps, defers := [] } W)
    (hdone : ∀ (D : Nat) (W : World), w.heap.size ≤ D → I xs.length W → W.heap[D]? = some (.deferred (some [])) → Q .normal { a with defers := { target := .collected D, args := #[] } :: a.defers } W)
    (hstop : ∀ (D : Nat) (W : World), w.heap.size ≤ D → Ix W → W.heap[D]? = some (.deferred (some [])) → Code.ret.wpIn F n P Q { a with defers := { target := .collected D, args := #[] } :: a.defers } W) :
    (Code.rangeFunc g ps assign body).wpIn F n P Q a w := by
  refine wpIn_rangeFunc fun fn hfn => ?_
  rw [hro]
  obtain ⟨B0, hB0⟩ : ∃ B0, B0 = w.heap.size := ⟨_, rfl⟩
  let rc : LoopState → Option Code → Loop := fun st pe => { state := st, pending := pe, fn := fn, tmps := a.tmps, params := ps, assign := assign, body := body, defers := w.heap.size }
  obtain ⟨W1, hW1⟩ : ∃ W1, W1 = (w.alloc (.deferred (some []))).alloc (.loop (rc .ready none)) := ⟨_, rfl⟩
  have sz : W1.heap.size = w.heap.size + 2 := by rw [hW1]; simp
  have cl : W1.heap[w.heap.size + 1]? = some (.loop (rc .ready none)) := by
    have := World.alloc_heap_new (w.alloc (.deferred (some []))) (.loop (rc .ready none))
    rw [World.size_alloc] at this
    rw [hW1]; exact this
  have cd : W1.heap[w.heap.size]? = some (.deferred (some [])) := by
    rw [hW1]; exact (Below.heap_alloc _ _ _ (by simp)).trans (World.alloc_heap_new w _)
  have b1 : Below w.heap.size w W1 := by rw [hW1]; exact ((Below.refl _ w).alloc (Nat.le_refl _) _).alloc (by simp) _
  have far : ∀ (A : World) (i : Nat) (v : Value) (j : Nat), j ≠ Bs → (A.setCell ⟨Bs, i, none⟩ v).heap[j]? = A.heap[j]? := fun A i v j hj => Below.heap_setCell A _ v j (by simpa using hj)
  refine ⟨w.heap.size + 1, [{ target := .collected w.heap.size, args := #[] }], W1, { target := .fn (.func gf) lb, args := #[.func (.yield (w.heap.size + 1)) #[] #[]] }, W1, gf,
    #[.func (.yield (w.heap.size + 1)) #[] #[]] ++ lb, W1, ?_, ?_, ?_, ?_, fun _ => h1, ?_⟩
  · rw [hW1]; exact run_enterLoop_outer _ _ _ _ _
  · simp only [resolve, hg]
    simp [go_sem]
  · intro f' hf'; simp [Target.leads] at hf'; subst hf'; exact hFg
  · simp [invoke, go_sem, eg]
  · refine (hseq (w.heap.size + 1) (fun k W => I k W ∧ W.heap[w.heap.size + 1]? = some (.loop (rc .ready none)) ∧ W.heap[w.heap.size]? = some (.deferred (some [])))
      (fun W => Ix W ∧ W.heap[w.heap.size + 1]? = some (.loop (rc .done (some .ret))) ∧ W.heap[w.heap.size]? = some (.deferred (some []))) W1 (hb0.trans (b1.mono hb0.size))
      (fun k A i v hk => ⟨hIs k A i v hk.1, (far A i v _ (by omega)).trans hk.2.1, (far A i v _ (by omega)).trans hk.2.2⟩) ?_ ⟨hI 0 w W1 h0 (Book.of_below b1), cl, cd⟩).mono ?_
    · rintro k x W ⟨hi, hl, hd⟩ hx
      have hlt : w.heap.size + 1 < W.heap.size := (Array.getElem?_eq_some_iff.1 hl).1
      refine ⟨fn, _, assign, body, run_yield (P := P) (args := encs x) hl (hps x), roundIn_of_wpIn hfn (wpIn_mono (hround (w.heap.size + 1) k x W hi hx (by omega) ⟨_, hl, rfl⟩) ?_)⟩
      rintro e a1 w1 he
      cases e with
      | normal =>
        obtain ⟨o1, k1, i1, hbody⟩ := he
        have l1 := o1.same _ _ hl rfl
        have d1 := o1.same _ _ hd rfl
        have lt1 := (Array.getElem?_eq_some_iff.1 l1).1
        refine ⟨_, run_beginRound l1 rfl, wpIn_mono (hbody _ (fun j hj => World.putObj_heap_other hj) (put_size _ _ _) (Book.put _ (by omega) l1 rfl)) ?_⟩
        have l2 : (w1.putObj (w.heap.size + 1) (.loop { rc .ready none with state := .busy })).heap[w.heap.size + 1]? = some (.loop (rc .busy none)) := World.putObj_heap_same lt1
        have d2 : (w1.putObj (w.heap.size + 1) (.loop { rc .ready none with state := .busy })).heap[w.heap.size]? = some (.deferred (some [])) := (World.putObj_heap_other (by omega)).trans d1
        rintro e a3 w3 ⟨o3, ⟨rfl, k3, i3⟩ | ⟨rfl, i3⟩⟩
        · have l3 := o3.same _ _ l2 rfl
          have d3 := o3.same _ _ d2 rfl
          have lt3 := (Array.getElem?_eq_some_iff.1 l3).1
          refine ⟨_, _, run_endRound (P := P) none l3, .inl ⟨rfl, ⟨hI _ _ _ i3 (Book.put _ (by omega) l3 rfl), World.putObj_heap_same lt3, (World.putObj_heap_other (by omega)).trans d3⟩, ?_, ?_⟩⟩
          · have s2 : Keeps own w1 (w1.putObj (w.heap.size + 1) (.loop { rc .ready none with state := .busy })) := Keeps.at_ l1 rfl fun j hj => World.putObj_heap_other hj
            have s4 : Keeps own w3 (w3.putObj (w.heap.size + 1) (.loop { rc .busy none with state := if (none : Option Code).isNone then .ready else .done, pending := none })) := Keeps.at_ l3 rfl fun j hj => World.putObj_heap_other hj
            exact k1.trans (s2.trans (k3.trans s4))
          · rw [put_size]
            have h2 := o3.size
            rw [put_size] at h2
            exact Nat.le_trans o1.size h2
        · have l3 := o3.same _ _ l2 rfl
          have d3 := o3.same _ _ d2 rfl
          have lt3 := (Array.getElem?_eq_some_iff.1 l3).1
          exact ⟨_, _, run_endRound (P := P) (some .ret) l3, .inr ⟨rfl, hIx _ _ i3 (Book.put _ (by omega) l3 rfl), World.putObj_heap_same lt3, (World.putObj_heap_other (by omega)).trans d3⟩⟩
      | ret => exact he.elim
      | exit id => exact he.elim
      | goto t => exact he.elim
      | panic c => exact he.elim
      | outgrown => exact he.elim
    · rintro e W2 ⟨⟨v, rfl⟩, ⟨hi, hl, hd⟩ | ⟨hi, hl, hd⟩⟩
      · refine ⟨none, _, run_endLoop (P := P) hl (by simp [rc]), ?_⟩
        exact hdone w.heap.size _ (Nat.le_refl _) (hI _ _ _ hi (Book.put _ (by omega) hl rfl)) ((World.putObj_heap_other (by omega)).trans hd)
      · refine ⟨some .ret, _, run_endLoop (P := P) hl (by simp [rc]), ?_⟩
        exact hstop w.heap.size _ (Nat.le_refl _) (hIx _ _ hi (Book.put _ (by omega) hl rfl)) ((World.putObj_heap_other (by omega)).trans hd)
end
end Go.Proofs.YtiamggjebaabkaaGreatDoor
