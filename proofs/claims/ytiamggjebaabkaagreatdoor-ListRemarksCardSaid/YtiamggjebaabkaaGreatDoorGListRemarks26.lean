/- Merged: Iter, ShaL. -/
import Derived.Test.YtiamggjebaabkaaGreatDoorGListRemarks1
import Derived.RangeFuncFrom
import Derived.RangeFuncBound
import Derived.RangeFuncCalls
import Derived.RangeFuncLeaves
import Derived.Test.YtiamggjebaabkaaGreatDoorGListRemarks25
namespace Go.Proofs.YtiamggjebaabkaaGreatDoor
open Go.RowKit
set_option linter.unusedVariables false

section
variable {F : Fence} {n : Nat} {P : Program}

/-- All cells but one's own lie as they lay. -/
def Keeps (own : Nat → Prop) (A B : World) : Prop := ∀ j o, ¬ own j → A.heap[j]? = some o → o.isCells = true → B.heap[j]? = some o
theorem Keeps.refl (own : Nat → Prop) (A : World) : Keeps own A A := fun _ _ _ h _ => h
theorem Keeps.trans {own : Nat → Prop} {A B C : World} (h : Keeps own A B) (k : Keeps own B C) : Keeps own A C := fun j o h1 h2 h3 => k j o h1 (h j o h1 h2 h3) h3
theorem Keeps.at_ {own : Nat → Prop} {A B : World} {l : Nat} {o : Obj} (h : A.heap[l]? = some o) (hc : o.isCells = false) (hs : ∀ j, j ≠ l → B.heap[j]? = A.heap[j]?) : Keeps own A B := fun j o' _ h2 h3 => by
  by_cases e : j = l
  · subst e
    rw [h] at h2
    cases h2
    rw [hc] at h3; cases h3
  · rw [hs j e]; exact h2
theorem Keeps.below {own : Nat → Prop} {A B : World} (h : Below A.heap.size A B) : Keeps own A B := fun j o _ h2 _ => (h.block j (Array.getElem?_eq_some_iff.1 h2).1).trans h2
/-- An iterator gives the values xs; its caller keeps all cells but its own; what the iterator turns lies beyond its own beginning. -/
def Gives {α : Type} (F : Fence) (n : Nat) (P : Program) (g : Nat) (lb : Array Value) (encs : α → Array Value) (own : Nat → Prop) (xs : List α) (w : World) : Prop :=
  ∀ (l : Nat) (J : Nat → World → Prop) (W : World), Below w.heap.size w W → (∀ k A B, J k A → Below W.heap.size A B → J k B) →
    (∀ k x A, J k A → xs[k]? = some x → YieldAt F (n - 1) P l (encs x) A fun e B => e = .returned (.bool true) ∧ J (k + 1) B ∧ Keeps own A B ∧ A.heap.size ≤ B.heap.size) →
    J 0 W → CallsIn F n P g (#[.func (.yield l) #[] #[]] ++ lb) W fun e B => (∃ v, e = .returned v) ∧ J xs.length B

theorem put_below {W : World} {l B : Nat} (o : Obj) (h : B ≤ l) : Below B W (W.putObj l o) :=
  ⟨rfl, rfl, rfl, by simp [World.putObj], fun k hk => World.putObj_heap_other (by omega)⟩
theorem put_size (W : World) (l : Nat) (o : Obj) : (W.putObj l o).heap.size = W.heap.size := by simp [World.putObj]

theorem range_gives {α : Type} {g : Operand} {ps : Array Tmp} {assign body : Code} {Q : Exit → Act → World → Prop} {a : Act} {w : World}
    (hro : F.round = none) (h1 : 1 ≤ n) {gf : Nat} {lb : Array Value} (hg : a.eval g = .func (.func gf) #[] lb) (hFg : F.fn gf) (eg : ∀ args w, (callFunc gf args).run P w = .ok (.enter gf args) w)
    {encs : α → Array Value} {own : Nat → Prop} {xs : List α} {w0 : World} (hseq : Gives F (n - 1) P gf lb encs own xs w0) (hb0 : Below w0.heap.size w0 w) (hps : ∀ x, (encs x).size = ps.size)
    (I : Nat → World → Prop) (hI : ∀ k A B, I k A → Below w.heap.size A B → I k B) (h0 : I 0 w)
    (hround : ∀ (l k : Nat) (x : α) (W : World), I k W → xs[k]? = some x → w.heap.size ≤ l → l < W.heap.size →
      assign.wpIn (F.inRound l) (n - 1 - 1) P (Exit.then (fun a1 w1 => KeepsOthers W w1 ∧ Keeps own W w1 ∧ I k w1 ∧
        ∀ w2, (∀ j, j ≠ l → w2.heap[j]? = w1.heap[j]?) → w2.heap.size = w1.heap.size → Below w.heap.size w1 w2 →
          body.wpIn (F.inRound l) (n - 1 - 1) P (fun e _ w3 => e = .normal ∧ KeepsOthers w2 w3 ∧ Keeps own w2 w3 ∧ I (k + 1) w3) a1 w2) (fun _ _ _ => False))
        { tmps := (ps.zip (encs x)).foldl (fun t (p, v) => t.setIfInBounds p v) a.tmps, defers := [] } W)
    (hdone : ∀ (D : Nat) (W : World), w.heap.size ≤ D → I xs.length W → W.heap[D]? = some (.deferred (some [])) → Q .normal { a with defers := { target := .collected D, args := #[] } :: a.defers } W) :
    (Code.rangeFunc g ps assign body).wpIn F n P Q a w := by
  refine wpIn_rangeFunc fun fn hfn => ?_
  rw [hro]
  obtain ⟨B0, hB0⟩ : ∃ B0, B0 = w.heap.size := ⟨_, rfl⟩
  let rc : LoopState → Loop := fun st => { state := st, pending := none, fn := fn, tmps := a.tmps, params := ps, assign := assign, body := body, defers := w.heap.size }
  obtain ⟨W1, hW1⟩ : ∃ W1, W1 = (w.alloc (.deferred (some []))).alloc (.loop (rc .ready)) := ⟨_, rfl⟩
  have sz : W1.heap.size = w.heap.size + 2 := by rw [hW1]; simp
  have cl : W1.heap[w.heap.size + 1]? = some (.loop (rc .ready)) := by
    have := World.alloc_heap_new (w.alloc (.deferred (some []))) (.loop (rc .ready))
    rw [World.size_alloc] at this
    rw [hW1]; exact this
  have cd : W1.heap[w.heap.size]? = some (.deferred (some [])) := by
    rw [hW1]; exact (Below.heap_alloc _ _ _ (by simp)).trans (World.alloc_heap_new w _)
  have b1 : Below w.heap.size w W1 := by rw [hW1]; exact ((Below.refl _ w).alloc (Nat.le_refl _) _).alloc (by simp) _
  refine ⟨w.heap.size + 1, [{ target := .collected w.heap.size, args := #[] }], W1, { target := .fn (.func gf) lb, args := #[.func (.yield (w.heap.size + 1)) #[] #[]] }, W1, gf,
    #[.func (.yield (w.heap.size + 1)) #[] #[]] ++ lb, W1, ?_, ?_, ?_, ?_, fun _ => h1, ?_⟩
  · rw [hW1]; exact run_enterLoop_outer _ _ _ _ _
  · simp only [resolve, hg]
    simp [go_sem]
  · intro f' hf'; simp [Target.leads] at hf'; subst hf'; exact hFg
  · simp [invoke, go_sem, eg]
  · refine (hseq (w.heap.size + 1) (fun k W => I k W ∧ W.heap[w.heap.size + 1]? = some (.loop (rc .ready)) ∧ W.heap[w.heap.size]? = some (.deferred (some []))) W1 (hb0.trans (b1.mono hb0.size))
      (fun k A B hk hb => ⟨hI k A B hk.1 (hb.mono (by omega)), (hb.block _ (by omega)).trans hk.2.1, (hb.block _ (by omega)).trans hk.2.2⟩) ?_ ⟨hI 0 w W1 h0 b1, cl, cd⟩).mono ?_
    · rintro k x W ⟨hi, hl, hd⟩ hx
      have hlt : w.heap.size + 1 < W.heap.size := (Array.getElem?_eq_some_iff.1 hl).1
      refine ⟨fn, _, assign, body, run_yield (P := P) (args := encs x) hl (hps x), roundIn_of_wpIn hfn (wpIn_mono (hround (w.heap.size + 1) k x W hi hx (by omega) hlt) ?_)⟩
      rintro e a1 w1 he
      cases e with
      | normal =>
        obtain ⟨o1, k1, i1, hbody⟩ := he
        have l1 := o1.same _ _ hl rfl
        have d1 := o1.same _ _ hd rfl
        have lt1 := (Array.getElem?_eq_some_iff.1 l1).1
        refine ⟨_, run_beginRound l1 rfl, wpIn_mono (hbody _ (fun j hj => World.putObj_heap_other hj) (put_size _ _ _) (put_below _ (by omega))) ?_⟩
        rintro e a3 w3 ⟨rfl, o3, k3, i3⟩
        have l2 : (w1.putObj (w.heap.size + 1) (.loop { rc .ready with state := .busy })).heap[w.heap.size + 1]? = some (.loop (rc .busy)) := World.putObj_heap_same lt1
        have d2 : (w1.putObj (w.heap.size + 1) (.loop { rc .ready with state := .busy })).heap[w.heap.size]? = some (.deferred (some [])) := (World.putObj_heap_other (by omega)).trans d1
        have l3 := o3.same _ _ l2 rfl
        have d3 := o3.same _ _ d2 rfl
        have lt3 := (Array.getElem?_eq_some_iff.1 l3).1
        refine ⟨_, _, run_endRound (P := P) none l3, rfl, ⟨hI _ _ _ i3 (put_below _ (by omega)), World.putObj_heap_same lt3, (World.putObj_heap_other (by omega)).trans d3⟩, ?_, ?_⟩
        · have s2 : Keeps own w1 (w1.putObj (w.heap.size + 1) (.loop { rc .ready with state := .busy })) := Keeps.at_ l1 rfl fun j hj => World.putObj_heap_other hj
          have s4 : Keeps own w3 (w3.putObj (w.heap.size + 1) (.loop { rc .busy with state := if (none : Option Code).isNone then .ready else .done, pending := none })) := Keeps.at_ l3 rfl fun j hj => World.putObj_heap_other hj
          exact k1.trans (s2.trans (k3.trans s4))
        · rw [put_size]
          have h2 := o3.size
          rw [put_size] at h2
          exact Nat.le_trans o1.size h2
      | ret => exact he.elim
      | exit id => exact he.elim
      | goto t => exact he.elim
      | panic c => exact he.elim
      | outgrown => exact he.elim
    · rintro e W2 ⟨⟨v, rfl⟩, hi, hl, hd⟩
      refine ⟨none, _, run_endLoop (P := P) hl (by simp [rc]), ?_⟩
      exact hdone w.heap.size _ (Nat.le_refl _) (hI _ _ _ hi (put_below _ (by omega))) ((World.putObj_heap_other (by omega)).trans hd)
end
end Go.Proofs.YtiamggjebaabkaaGreatDoor

namespace Go.Proofs.YtiamggjebaabkaaGreatDoor
open Go.RowKit Go.WideShapes Go.ChangeShapes
set_option linter.unusedVariables false

/-- What isn't one's own, and lay below W's end, lies as it lay. -/
def KB (own : Nat → Prop) (W w : World) : Prop := ∀ j o, ¬ own j → W.heap[j]? = some o → o.isCells = true → w.heap[j]? = some o
theorem KB.refl (own : Nat → Prop) (W : World) : KB own W W := fun _ _ _ h _ => h
theorem KB.keeps {own : Nat → Prop} {W A B : World} (h : KB own W A) (k : Keeps own A B) : KB own W B := fun j o h1 h2 h3 => k j o h1 (h j o h1 h2 h3) h3
theorem KB.below {own : Nat → Prop} {W A B : World} (h : KB own W A) (k : Below W.heap.size A B) : KB own W B := fun j o h1 h2 h3 => (k.block j (Array.getElem?_eq_some_iff.1 h2).1).trans (h j o h1 h2 h3)
theorem KB.cell {own : Nat → Prop} {W A : World} (h : KB own W A) {p : Addr} {v : Value} (hp : ¬ own p.block) (hc : W.cell? p = some v) : A.cell? p = some v := by
  unfold World.cell? at hc
  cases e : W.heap[p.block]? with
  | none => rw [e] at hc; cases hc
  | some o =>
    rw [e] at hc
    cases o with
    | cells cs t fr =>
      have h2 := h _ _ hp e rfl
      unfold World.cell?
      rw [h2]; exact hc
    | _ => cases hc
/-- An address that lies in no block of one's own. -/
def NO (own : Nat → Prop) (A : Option Addr) (l : List UInt8) : Prop := l = [] ∨ ∀ a, A = some a → ¬ own a.block
theorem NO.take {own : Nat → Prop} {A : Option Addr} {l : List UInt8} (h : NO own A l) (n : Nat) : NO own A (l.take n) := by
  rcases h with h | h
  · left; rw [h]; simp
  · exact .inr h
theorem Rb.kb {own : Nat → Prop} {W w : World} {A : Option Addr} {l : List UInt8} (h : Rb W A l) (hn : NO own A l) (k : KB own W w) : Rb w A l := by
  refine ⟨h.1, ?_⟩
  rcases h.2 with h0 | ⟨b, off, h1, h2, h3⟩
  · exact .inl h0
  · cases hz : nums l with
    | nil => exact .inl rfl
    | cons z zs =>
      have hn : ∀ a, A = some a → ¬ own a.block := by
        rcases hn with e | e
        · rw [e] at hz; cases hz
        · exact e
      have c0 := k.cell (p := ⟨b, off + 0, none⟩) (show ¬ own b from hn _ h1) (h3 0 z (by rw [hz]; rfl))
      exact .inr ⟨b, off, h1, World.block_lt_of_cell? _ _ c0, fun j y hj => k.cell (p := ⟨b, off + j, none⟩) (show ¬ own b from hn _ h1) (h3 j y (by rw [hz]; exact hj))⟩
/-- What is left behind n bytes. -/
theorem rest_of {own : Nat → Prop} {W : World} {A : Option Addr} {l : List UInt8} {c n : Nat} (h : Rb W A l) (hn : NO own A l) (hA : A = none → c = 0) (hc : l.length ≤ c) (hl : n ≤ l.length) :
    ∃ A' c', (∀ w', (Instr.slice 59 (.slice A l.length c) (some (.int .i64 (n : Int))) none none).run Tryz.prog w' = .ok (.slice A' (l.drop n).length c') w') ∧ Rb W A' (l.drop n) ∧ (A' = none → c' = 0) ∧ (l.drop n).length ≤ c' ∧ NO own A' (l.drop n) := by
  refine ⟨if c = n then A else A.map (·.add n), c - n, fun w' => ?_, ?_, ?_, by simp; omega, ?_⟩
  · rw [run_slice_l w' 59 A l.length c bslice .i64 (n : Int) (by omega) (by omega), bsize]
    simp [Result.andThen, sliced]
  · split
    · rename_i e
      have : l.drop n = [] := List.drop_eq_nil_of_le (by omega)
      rw [this]; exact Rb.nil _
    · cases A with
      | none =>
        rw [h.none_]
        simp only [List.drop_nil]
        exact Rb.nil _
      | some a =>
        rcases h.2 with h0 | ⟨b, off, e, _⟩
        · have e : l = [] := by unfold nums at h0; simpa using h0
          rw [e]
          simp only [List.drop_nil]
          exact Rb.nil _
        · injection e with e
          subst e
          rw [Option.map_some, add_plain]
          exact h.drop_ n
  · split
    · intro e; have := hA e; omega
    · intro e
      have : A = none := by simpa using e
      have := hA this; omega
  · rcases hn with e | hn
    · left; rw [e]; simp
    right
    split
    · exact hn
    · intro a ha
      cases A with
      | none => cases ha
      | some a0 =>
        rw [Option.map_some] at ha
        injection ha with ha
        rw [← ha]
        have hb : (a0.add n).block = a0.block := by unfold Addr.add; split <;> rfl
        rw [hb]; exact hn a0 rfl

/-- Parts: where each lies, its bytes, its room. -/
abbrev Pt := Option Addr × List UInt8 × Nat
def cat (ps : List Pt) : List UInt8 := ps.flatMap fun p => p.2.1
/-- The slice at Ap reads as the parts ps. -/
def Ps (own : Nat → Prop) (W : World) (Ap : Option Addr) (ps : List Pt) : Prop := ∀ j A l c, ps[j]? = some (A, l, c) →
  (∃ b off, Ap = some ⟨b, off, none⟩ ∧ ¬ own b ∧ W.cell? ⟨b, off + j, none⟩ = some (.slice A l.length c)) ∧ Rb W A l ∧ (A = none → c = 0) ∧ l.length ≤ c ∧ NO own A l
/-- A text's blocks. -/
def blk9 (T : List UInt8) (k : Nat) : List UInt8 := (T.drop (64 * k)).take 64
def blks (T : List UInt8) (K : Nat) : List (List UInt8) := (List.range K).map (blk9 T)
theorem blks_len (T : List UInt8) (K : Nat) : (blks T K).length = K := by simp [blks]
theorem blks_at {T : List UInt8} {K k : Nat} (h : k < K) : (blks T K)[k]? = some (blk9 T k) := by simp [blks, h]
/-- Bytes behind those that fill a block's beginning. -/
theorem fills9 {T Z r rest : List UInt8} {f k t : Nat} (hZ : Z.length = 64) (hf : f + t ≤ 64) (ht : t ≤ r.length) (h1 : Z.take f = (T.drop (64 * k)).take f) (h2 : T.drop (64 * k + f) = r ++ rest) :
    (splice Z f (r.take t)).length = 64 ∧ (splice Z f (r.take t)).take (f + t) = (T.drop (64 * k)).take (f + t) ∧ T.drop (64 * k + (f + t)) = r.drop t ++ rest := by
  have e1 : (r.take t).length = t := by rw [List.length_take]; omega
  refine ⟨by rw [splice_len (by rw [e1]; omega)]; exact hZ, ?_, ?_⟩
  · unfold splice
    rw [← List.append_assoc, List.take_append_of_le_length (by rw [List.length_append, List.length_take, e1]; omega), List.take_of_length_le (by rw [List.length_append, List.length_take, e1]; omega), h1]
    have e2 : r.take t = ((T.drop (64 * k)).drop f).take t := by rw [List.drop_drop, h2, List.take_append_of_le_length ht]
    rw [e2, ← List.take_add]
  · rw [← Nat.add_assoc, ← List.drop_drop, h2, List.drop_append_of_le_length ht]

/-- A load of a whole array, in a fenced walk. -/
theorem load_in {F : Fence} {n : Nat} {ops : Array Oper} {rest : List Oper} {o : Oper} {a : Act} {w : World} {Q : Exit → Act → World → Prop} (hgd : o.guard = none) (ty : TypeId) (x : Operand) (ho : o.op = .load ty x)
    (g : Nat) (hx : a.eval x = .pointer (some ⟨g, 0, none⟩)) (t : TypeId) (cs : Array Value) (fr : Nat × Nat) (len : Nat) (el : TypeId) (hg : w.heap[g]? = some (.cells cs t fr))
    (hu : Tryz.prog.underlying ty = some (.array len el)) (hi : (Tryz.prog.info? ty).map (·.size) = some cs.size)
    (h : wpListIn F n Tryz.prog ops Q rest (a.put o.dst (.agg cs)) w) : wpListIn F n Tryz.prog ops Q (o :: rest) a w := by
  refine wpListIn_plain hgd fun K hK => ?_
  unfold Oper.wpIn
  refine ⟨?_, ?_⟩
  · simp [Oper.about, ho]
  · rw [Oper.semAt_plain F _ _ (by rw [ho]; intro c hc'; cases hc')]
    simp only [execOp, ho, hx, Instr.loadAt, Instr.sureAddr, Sem.run_bind, Sem.run_pure, Result.andThen_ok, run_loadVar_row w g t ty cs fr _ hg hu rfl hi]
    exact hK _ _ h

end Go.Proofs.YtiamggjebaabkaaGreatDoor
