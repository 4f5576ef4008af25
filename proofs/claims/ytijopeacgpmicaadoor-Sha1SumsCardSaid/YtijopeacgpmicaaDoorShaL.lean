/- The program's digests: what blocks reads and gives (no walk). -/
import Derived.Test.YtijopeacgpmicaaDoorShaK
import Derived.Test.YtijopeacgpmicaaDoorIter
namespace Go.Proofs.YtijopeacgpmicaaDoor
open Go.RowKit Go.WideShapes Go.ChangeShapes
set_option linter.unusedVariables false

/-- What isn't one's own, and lay below W's end, lies as it lay. -/
def KB (own : Nat → Prop) (W w : World) : Prop := ∀ j o, ¬ own j → W.heap[j]? = some o → o.isCells = true → w.heap[j]? = some o
theorem KB.refl (own : Nat → Prop) (W : World) : KB own W W := fun _ _ _ h _ => h
theorem KB.keeps {own : Nat → Prop} {W A B : World} (h : KB own W A) (k : Keeps own A B) : KB own W B := fun j o h1 h2 h3 => k j o h1 (h j o h1 h2 h3) h3
theorem KB.below {own : Nat → Prop} {W A B : World} (h : KB own W A) (k : Below W.heap.size A B) : KB own W B := fun j o h1 h2 h3 => (k.block j (Array.getElem?_eq_some_iff.1 h2).1).trans (h j o h1 h2 h3)
theorem KB.cell {own : Nat → Prop} {W A : World} (h : KB own W A) {p : Addr} {v : Value} (hp : ¬ own p.block) (hc : W.cell? p = some v) : A.cell? p = some v := by
  unfold World.cell? at hc
  cases e : W.heap[p.block]? with
  | none => rw [e] at hc; cases hc
  | some o =>
    rw [e] at hc
    cases o with
    | cells cs t fr =>
      have h2 := h _ _ hp e rfl
      unfold World.cell?
      rw [h2]; exact hc
    | _ => cases hc
/-- An address that lies in no block of one's own. -/
def NO (own : Nat → Prop) (A : Option Addr) (l : List UInt8) : Prop := l = [] ∨ ∀ a, A = some a → ¬ own a.block
theorem NO.take {own : Nat → Prop} {A : Option Addr} {l : List UInt8} (h : NO own A l) (n : Nat) : NO own A (l.take n) := by
  rcases h with h | h
  · left; rw [h]; simp
  · exact .inr h
theorem Rb.kb {own : Nat → Prop} {W w : World} {A : Option Addr} {l : List UInt8} (h : Rb W A l) (hn : NO own A l) (k : KB own W w) : Rb w A l := by
  refine ⟨h.1, ?_⟩
  rcases h.2 with h0 | ⟨b, off, h1, h2, h3⟩
  · exact .inl h0
  · cases hz : nums l with
    | nil => exact .inl rfl
    | cons z zs =>
      have hn : ∀ a, A = some a → ¬ own a.block := by
        rcases hn with e | e
        · rw [e] at hz; cases hz
        · exact e
      have c0 := k.cell (p := ⟨b, off + 0, none⟩) (show ¬ own b from hn _ h1) (h3 0 z (by rw [hz]; rfl))
      exact .inr ⟨b, off, h1, World.block_lt_of_cell? _ _ c0, fun j y hj => k.cell (p := ⟨b, off + j, none⟩) (show ¬ own b from hn _ h1) (h3 j y (by rw [hz]; exact hj))⟩
/-- What is left behind n bytes. -/
theorem rest_of {own : Nat → Prop} {W : World} {A : Option Addr} {l : List UInt8} {c n : Nat} (h : Rb W A l) (hn : NO own A l) (hA : A = none → c = 0) (hc : l.length ≤ c) (hl : n ≤ l.length) :
    ∃ A' c', (∀ w', (Instr.slice 22 (.slice A l.length c) (some (.int .i64 (n : Int))) none none).run Tryd.prog w' = .ok (.slice A' (l.drop n).length c') w') ∧ Rb W A' (l.drop n) ∧ (A' = none → c' = 0) ∧ (l.drop n).length ≤ c' ∧ NO own A' (l.drop n) := by
  refine ⟨if c = n then A else A.map (·.add n), c - n, fun w' => ?_, ?_, ?_, by simp; omega, ?_⟩
  · rw [run_slice_l w' 22 A l.length c bslice .i64 (n : Int) (by omega) (by omega), bsize]
    simp [Result.andThen, sliced]
  · split
    · rename_i e
      have : l.drop n = [] := List.drop_eq_nil_of_le (by omega)
      rw [this]; exact Rb.nil _
    · cases A with
      | none =>
        rw [h.none_]
        simp only [List.drop_nil]
        exact Rb.nil _
      | some a =>
        rcases h.2 with h0 | ⟨b, off, e, _⟩
        · have e : l = [] := by unfold nums at h0; simpa using h0
          rw [e]
          simp only [List.drop_nil]
          exact Rb.nil _
        · injection e with e
          subst e
          rw [Option.map_some, add_plain]
          exact h.drop_ n
  · split
    · intro e; have := hA e; omega
    · intro e
      have : A = none := by simpa using e
      have := hA this; omega
  · rcases hn with e | hn
    · left; rw [e]; simp
    right
    split
    · exact hn
    · intro a ha
      cases A with
      | none => cases ha
      | some a0 =>
        rw [Option.map_some] at ha
        injection ha with ha
        rw [← ha]
        have hb : (a0.add n).block = a0.block := by unfold Addr.add; split <;> rfl
        rw [hb]; exact hn a0 rfl

/-- Parts: where each lies, its bytes, its room. -/
abbrev Pt := Option Addr × List UInt8 × Nat
def cat (ps : List Pt) : List UInt8 := ps.flatMap fun p => p.2.1
/-- The slice at Ap reads as the parts ps. -/
def Ps (own : Nat → Prop) (W : World) (Ap : Option Addr) (ps : List Pt) : Prop := ∀ j A l c, ps[j]? = some (A, l, c) →
  (∃ b off, Ap = some ⟨b, off, none⟩ ∧ ¬ own b ∧ W.cell? ⟨b, off + j, none⟩ = some (.slice A l.length c)) ∧ Rb W A l ∧ (A = none → c = 0) ∧ l.length ≤ c ∧ NO own A l
/-- A text's blocks. -/
def blk9 (T : List UInt8) (k : Nat) : List UInt8 := (T.drop (64 * k)).take 64
def blks (T : List UInt8) (K : Nat) : List (List UInt8) := (List.range K).map (blk9 T)
theorem blks_len (T : List UInt8) (K : Nat) : (blks T K).length = K := by simp [blks]
theorem blks_at {T : List UInt8} {K k : Nat} (h : k < K) : (blks T K)[k]? = some (blk9 T k) := by simp [blks, h]
/-- Bytes behind those that fill a block's beginning. -/
theorem fills9 {T Z r rest : List UInt8} {f k t : Nat} (hZ : Z.length = 64) (hf : f + t ≤ 64) (ht : t ≤ r.length) (h1 : Z.take f = (T.drop (64 * k)).take f) (h2 : T.drop (64 * k + f) = r ++ rest) :
    (splice Z f (r.take t)).length = 64 ∧ (splice Z f (r.take t)).take (f + t) = (T.drop (64 * k)).take (f + t) ∧ T.drop (64 * k + (f + t)) = r.drop t ++ rest := by
  have e1 : (r.take t).length = t := by rw [List.length_take]; omega
  refine ⟨by rw [splice_len (by rw [e1]; omega)]; exact hZ, ?_, ?_⟩
  · unfold splice
    rw [← List.append_assoc, List.take_append_of_le_length (by rw [List.length_append, List.length_take, e1]; omega), List.take_of_length_le (by rw [List.length_append, List.length_take, e1]; omega), h1]
    have e2 : r.take t = ((T.drop (64 * k)).drop f).take t := by rw [List.drop_drop, h2, List.take_append_of_le_length ht]
    rw [e2, ← List.take_add]
  · rw [← Nat.add_assoc, ← List.drop_drop, h2, List.drop_append_of_le_length ht]

/-- A load of a whole array, in a fenced walk. -/
theorem load_in {F : Fence} {n : Nat} {ops : Array Oper} {rest : List Oper} {o : Oper} {a : Act} {w : World} {Q : Exit → Act → World → Prop} (hgd : o.guard = none) (ty : TypeId) (x : Operand) (ho : o.op = .load ty x)
    (g : Nat) (hx : a.eval x = .pointer (some ⟨g, 0, none⟩)) (t : TypeId) (cs : Array Value) (fr : Nat × Nat) (len : Nat) (el : TypeId) (hg : w.heap[g]? = some (.cells cs t fr))
    (hu : Tryd.prog.underlying ty = some (.array len el)) (hi : (Tryd.prog.info? ty).map (·.size) = some cs.size)
    (h : wpListIn F n Tryd.prog ops Q rest (a.put o.dst (.agg cs)) w) : wpListIn F n Tryd.prog ops Q (o :: rest) a w := by
  refine wpListIn_plain hgd fun K hK => ?_
  unfold Oper.wpIn
  refine ⟨?_, ?_⟩
  · simp [Oper.about, ho]
  · rw [Oper.semAt_plain F _ _ (by rw [ho]; intro c hc'; cases hc')]
    simp only [execOp, ho, hx, Instr.loadAt, Instr.sureAddr, Sem.run_bind, Sem.run_pure, Result.andThen_ok, run_loadVar_row w g t ty cs fr _ hg hu rfl hi]
    exact hK _ _ h

end Go.Proofs.YtijopeacgpmicaaDoor
