/- Merged: IterS, Split. -/
import Derived.Test.YtdonicaiimeleaaGreatDoorGListParses36
import Derived.Test.YtdonicaiimeleaaGreatDoorGListParses4
import Derived.Test.YtdonicaiimeleaaGreatDoorGListParses1
import Derived.Lib.IndexLaws
import Derived.Lib.SliceRun
import Derived.Shelf.Abstract
import Derived.Shelf.RegionOpen
import Derived.WalkKit
import Derived.OwnWalkIn
import Derived.TacticsInMore
import Derived.LoopNIn
import Derived.LoopIn
namespace Go.Proofs.YtdonicaiimeleaaGreatDoor
open Go.RowKit
set_option linter.unusedVariables false

section
variable {F : Fence} {n : Nat} {P : Program}

/-- The book-keeping of a loop: what lies below lo, and all cells, lie as they lay. -/
structure Book (lo : Nat) (A B : World) : Prop where
  os : B.os = A.os
  tape : B.tape = A.tape
  output : B.output = A.output
  size : A.heap.size ≤ B.heap.size
  keep : ∀ j o, A.heap[j]? = some o → (j < lo ∨ o.isCells = true) → B.heap[j]? = some o
theorem Book.bel {lo : Nat} {A B : World} (h : Book lo A B) (hl : lo ≤ A.heap.size) : Below lo A B :=
  ⟨h.os, h.tape, h.output, h.size, fun j hj => by
    have e : A.heap[j]? = some A.heap[j] := Array.getElem?_eq_getElem (by omega)
    rw [e]; exact h.keep j _ e (.inl hj)⟩
theorem Book.trans {lo : Nat} {A B C : World} (h : Book lo A B) (k : Book lo B C) : Book lo A C :=
  ⟨k.os.trans h.os, k.tape.trans h.tape, k.output.trans h.output, Nat.le_trans h.size k.size, fun j o h1 h2 => k.keep j o (h.keep j o h1 h2) h2⟩
theorem Book.of_below {lo : Nat} {A B : World} (h : Below A.heap.size A B) : Book lo A B :=
  ⟨h.os, h.tape, h.output, h.size, fun j o h1 _ => (h.block j (Array.getElem?_eq_some_iff.1 h1).1).trans h1⟩
theorem Book.put {lo : Nat} {A : World} {l : Nat} {o : Obj} (o' : Obj) (hl : lo ≤ l) (h : A.heap[l]? = some o) (hc : o.isCells = false) : Book lo A (A.putObj l o') := by
  have b := put_below (W := A) o' (Nat.le_refl l)
  refine ⟨b.os, b.tape, b.output, b.size, fun j u h1 h2 => ?_⟩
  by_cases e : j = l
  · subst e
    rw [h] at h1
    injection h1 with h1
    subst h1
    rcases h2 with h2 | h2
    · omega
    · rw [hc] at h2; cases h2
  · exact (World.putObj_heap_other e).trans h1
/-- An iterator gives the values xs until it is told to stop; its caller keeps all cells but its own; what the iterator turns is the box Bs, or lies beyond its own beginning. -/
def Stops {α : Type} (F : Fence) (n : Nat) (P : Program) (g : Nat) (lb : Array Value) (encs : α → Array Value) (own : Nat → Prop) (Bs : Nat) (xs : List α) (w : World) : Prop :=
  ∀ (l : Nat) (J : Nat → World → Prop) (Jx : World → Prop) (W : World), Below w.heap.size w W →
    (∀ k A i v, J k A → J k (A.setCell ⟨Bs, i, none⟩ v)) →
    (∀ k x A, J k A → xs[k]? = some x → YieldAt F (n - 1) P l (encs x) A fun e B => (e = .returned (.bool true) ∧ J (k + 1) B ∧ Keeps own A B ∧ A.heap.size ≤ B.heap.size) ∨ (e = .returned (.bool false) ∧ Jx B)) →
    J 0 W → CallsIn F n P g (#[.func (.yield l) #[] #[]] ++ lb) W fun e B => (∃ v, e = .returned v) ∧ (J xs.length B ∨ Jx B)

theorem range_stops {α : Type} {g : Operand} {ps : Array Tmp} {assign body : Code} {Q : Exit → Act → World → Prop} {a : Act} {w : World}
    (hro : F.round = none) (h1 : 1 ≤ n) {gf : Nat} {lb : Array Value} (hg : a.eval g = .func (.func gf) #[] lb) (hFg : F.fn gf) (eg : ∀ args w, (callFunc gf args).run P w = .ok (.enter gf args) w)
    {encs : α → Array Value} {own : Nat → Prop} {Bs : Nat} {xs : List α} {w0 : World} (hseq : Stops F (n - 1) P gf lb encs own Bs xs w0) (hb0 : Below w0.heap.size w0 w) (hBs : Bs < w.heap.size) (hps : ∀ x, (encs x).size = ps.size)
    (I : Nat → World → Prop) (Ix : World → Prop) (hI : ∀ k A B, I k A → Book w.heap.size A B → I k B) (hIx : ∀ A B, Ix A → Book w.heap.size A B → Ix B) (hIs : ∀ k A i v, I k A → I k (A.setCell ⟨Bs, i, none⟩ v)) (h0 : I 0 w)
    (hround : ∀ (l k : Nat) (x : α) (W : World), I k W → xs[k]? = some x → w.heap.size ≤ l → (∃ o : Obj, W.heap[l]? = some o ∧ o.isCells = false) →
      assign.wpIn (F.inRound l) (n - 1 - 1) P (Exit.then (fun a1 w1 => KeepsOthers W w1 ∧ Keeps own W w1 ∧ I k w1 ∧
        ∀ w2, (∀ j, j ≠ l → w2.heap[j]? = w1.heap[j]?) → w2.heap.size = w1.heap.size → Book w.heap.size w1 w2 →
          body.wpIn (F.inRound l) (n - 1 - 1) P (fun e _ w3 => KeepsOthers w2 w3 ∧ ((e = .normal ∧ Keeps own w2 w3 ∧ I (k + 1) w3) ∨ (e = .ret ∧ Ix w3))) a1 w2) (fun _ _ _ => False))
        { tmps := (ps.zip (encs x)).foldl (fun t (p, v) => t.setIfInBounds p v) a.tmps, defers := [] } W)
    (hdone : ∀ (D : Nat) (W : World), w.heap.size ≤ D → I xs.length W → W.heap[D]? = some (.deferred (some [])) → Q .normal { a with defers := { target := .collected D, args := #[] } :: a.defers } W)
    (hstop : ∀ (D : Nat) (W : World), w.heap.size ≤ D → Ix W → W.heap[D]? = some (.deferred (some [])) → Code.ret.wpIn F n P Q { a with defers := { target := .collected D, args := #[] } :: a.defers } W) :
    (Code.rangeFunc g ps assign body).wpIn F n P Q a w := by
  refine wpIn_rangeFunc fun fn hfn => ?_
  rw [hro]
  obtain ⟨B0, hB0⟩ : ∃ B0, B0 = w.heap.size := ⟨_, rfl⟩
  let rc : LoopState → Option Code → Loop := fun st pe => { state := st, pending := pe, fn := fn, tmps := a.tmps, params := ps, assign := assign, body := body, defers := w.heap.size }
  obtain ⟨W1, hW1⟩ : ∃ W1, W1 = (w.alloc (.deferred (some []))).alloc (.loop (rc .ready none)) := ⟨_, rfl⟩
  have sz : W1.heap.size = w.heap.size + 2 := by rw [hW1]; simp
  have cl : W1.heap[w.heap.size + 1]? = some (.loop (rc .ready none)) := by
    have := World.alloc_heap_new (w.alloc (.deferred (some []))) (.loop (rc .ready none))
    rw [World.size_alloc] at this
    rw [hW1]; exact this
  have cd : W1.heap[w.heap.size]? = some (.deferred (some [])) := by
    rw [hW1]; exact (Below.heap_alloc _ _ _ (by simp)).trans (World.alloc_heap_new w _)
  have b1 : Below w.heap.size w W1 := by rw [hW1]; exact ((Below.refl _ w).alloc (Nat.le_refl _) _).alloc (by simp) _
  have far : ∀ (A : World) (i : Nat) (v : Value) (j : Nat), j ≠ Bs → (A.setCell ⟨Bs, i, none⟩ v).heap[j]? = A.heap[j]? := fun A i v j hj => Below.heap_setCell A _ v j (by simpa using hj)
  refine ⟨w.heap.size + 1, [{ target := .collected w.heap.size, args := #[] }], W1, { target := .fn (.func gf) lb, args := #[.func (.yield (w.heap.size + 1)) #[] #[]] }, W1, gf,
    #[.func (.yield (w.heap.size + 1)) #[] #[]] ++ lb, W1, ?_, ?_, ?_, ?_, fun _ => h1, ?_⟩
  · rw [hW1]; exact run_enterLoop_outer _ _ _ _ _
  · simp only [resolve, hg]
    simp [go_sem]
  · intro f' hf'; simp [Target.leads] at hf'; subst hf'; exact hFg
  · simp [invoke, go_sem, eg]
  · refine (hseq (w.heap.size + 1) (fun k W => I k W ∧ W.heap[w.heap.size + 1]? = some (.loop (rc .ready none)) ∧ W.heap[w.heap.size]? = some (.deferred (some [])))
      (fun W => Ix W ∧ W.heap[w.heap.size + 1]? = some (.loop (rc .done (some .ret))) ∧ W.heap[w.heap.size]? = some (.deferred (some []))) W1 (hb0.trans (b1.mono hb0.size))
      (fun k A i v hk => ⟨hIs k A i v hk.1, (far A i v _ (by omega)).trans hk.2.1, (far A i v _ (by omega)).trans hk.2.2⟩) ?_ ⟨hI 0 w W1 h0 (Book.of_below b1), cl, cd⟩).mono ?_
    · rintro k x W ⟨hi, hl, hd⟩ hx
      have hlt : w.heap.size + 1 < W.heap.size := (Array.getElem?_eq_some_iff.1 hl).1
      refine ⟨fn, _, assign, body, run_yield (P := P) (args := encs x) hl (hps x), roundIn_of_wpIn hfn (wpIn_mono (hround (w.heap.size + 1) k x W hi hx (by omega) ⟨_, hl, rfl⟩) ?_)⟩
      rintro e a1 w1 he
      cases e with
      | normal =>
        obtain ⟨o1, k1, i1, hbody⟩ := he
        have l1 := o1.same _ _ hl rfl
        have d1 := o1.same _ _ hd rfl
        have lt1 := (Array.getElem?_eq_some_iff.1 l1).1
        refine ⟨_, run_beginRound l1 rfl, wpIn_mono (hbody _ (fun j hj => World.putObj_heap_other hj) (put_size _ _ _) (Book.put _ (by omega) l1 rfl)) ?_⟩
        have l2 : (w1.putObj (w.heap.size + 1) (.loop { rc .ready none with state := .busy })).heap[w.heap.size + 1]? = some (.loop (rc .busy none)) := World.putObj_heap_same lt1
        have d2 : (w1.putObj (w.heap.size + 1) (.loop { rc .ready none with state := .busy })).heap[w.heap.size]? = some (.deferred (some [])) := (World.putObj_heap_other (by omega)).trans d1
        rintro e a3 w3 ⟨o3, ⟨rfl, k3, i3⟩ | ⟨rfl, i3⟩⟩
        · have l3 := o3.same _ _ l2 rfl
          have d3 := o3.same _ _ d2 rfl
          have lt3 := (Array.getElem?_eq_some_iff.1 l3).1
          refine ⟨_, _, run_endRound (P := P) none l3, .inl ⟨rfl, ⟨hI _ _ _ i3 (Book.put _ (by omega) l3 rfl), World.putObj_heap_same lt3, (World.putObj_heap_other (by omega)).trans d3⟩, ?_, ?_⟩⟩
          · have s2 : Keeps own w1 (w1.putObj (w.heap.size + 1) (.loop { rc .ready none with state := .busy })) := Keeps.at_ l1 rfl fun j hj => World.putObj_heap_other hj
            have s4 : Keeps own w3 (w3.putObj (w.heap.size + 1) (.loop { rc .busy none with state := if (none : Option Code).isNone then .ready else .done, pending := none })) := Keeps.at_ l3 rfl fun j hj => World.putObj_heap_other hj
            exact k1.trans (s2.trans (k3.trans s4))
          · rw [put_size]
            have h2 := o3.size
            rw [put_size] at h2
            exact Nat.le_trans o1.size h2
        · have l3 := o3.same _ _ l2 rfl
          have d3 := o3.same _ _ d2 rfl
          have lt3 := (Array.getElem?_eq_some_iff.1 l3).1
          exact ⟨_, _, run_endRound (P := P) (some .ret) l3, .inr ⟨rfl, hIx _ _ i3 (Book.put _ (by omega) l3 rfl), World.putObj_heap_same lt3, (World.putObj_heap_other (by omega)).trans d3⟩⟩
      | ret => exact he.elim
      | exit id => exact he.elim
      | goto t => exact he.elim
      | panic c => exact he.elim
      | outgrown => exact he.elim
    · rintro e W2 ⟨⟨v, rfl⟩, ⟨hi, hl, hd⟩ | ⟨hi, hl, hd⟩⟩
      · refine ⟨none, _, run_endLoop (P := P) hl (by simp [rc]), ?_⟩
        exact hdone w.heap.size _ (Nat.le_refl _) (hI _ _ _ hi (Book.put _ (by omega) hl rfl)) ((World.putObj_heap_other (by omega)).trans hd)
      · refine ⟨some .ret, _, run_endLoop (P := P) hl (by simp [rc]), ?_⟩
        exact hstop w.heap.size _ (Nat.le_refl _) (hIx _ _ hi (Book.put _ (by omega) hl rfl)) ((World.putObj_heap_other (by omega)).trans hd)
end
end Go.Proofs.YtdonicaiimeleaaGreatDoor

namespace Go.Proofs.YtdonicaiimeleaaGreatDoor
open Go.RowKit Go.Shelf
attribute [local go_sem] Oper.semAt_some
set_option linter.unusedVariables false
set_option linter.unusedSimpArgs false

/-- A text parted at each byte c. -/
def spR (c : UInt8) : List UInt8 → List (List UInt8)
  | [] => [[]]
  | b :: l => if b = c then [] :: spR c l else match spR c l with | [] => [[b]] | x :: xs => (b :: x) :: xs
theorem spR_ne (c : UInt8) : ∀ l, spR c l ≠ []
  | [] => by simp [spR]
  | b :: l => by
    rw [spR]
    split
    · simp
    · cases h : spR c l with
      | nil => exact absurd h (spR_ne c l)
      | cons x xs => simp
theorem spR_cut (c : UInt8) : ∀ {a : List UInt8} (r : List UInt8), (∀ b ∈ a, b ≠ c) → spR c (a ++ c :: r) = a :: spR c r
  | [], r, _ => by rw [List.nil_append, spR, if_pos rfl]
  | b :: a, r, h => by rw [List.cons_append, spR, if_neg (h b (by simp)), spR_cut c r (fun x hx => h x (by simp [hx]))]
theorem spR_last (c : UInt8) : ∀ {a : List UInt8}, (∀ b ∈ a, b ≠ c) → spR c a = [a]
  | [], _ => rfl
  | b :: a, h => by rw [spR, if_neg (h b (by simp)), spR_last c (fun x hx => h x (by simp [hx]))]
theorem no_byte {l : List UInt8} {c : UInt8} (h : ∀ k : Nat, l[k]? ≠ some c) : ∀ b ∈ l, b ≠ c := by
  rintro b hb rfl
  obtain ⟨k, hk⟩ := List.getElem?_of_mem hb
  exact h k hk
theorem part_byte {l : List UInt8} {c : UInt8} {o : Nat} (h : l[o]? = some c) (hn : ∀ k : Nat, k < o → l[k]? ≠ some c) : l = l.take o ++ c :: l.drop (o + 1) ∧ ∀ b ∈ l.take o, b ≠ c := by
  obtain ⟨ho, he⟩ := List.getElem?_eq_some_iff.1 h
  refine ⟨?_, no_byte fun k hk => ?_⟩
  · conv => lhs; rw [← List.take_append_drop o l, List.drop_eq_getElem_cons ho, he]
  · have hlt := (List.getElem?_eq_some_iff.1 hk).1
    rw [List.length_take] at hlt
    rw [List.getElem?_take, if_pos (by omega)] at hk
    exact hn k (by omega) hk

/-- The three boxes that the iterator has captured. -/
def SpB (w : World) (Bs : Nat) (s : ByteArray) (c : UInt8) : Prop := w.heap[Bs]? = some (.cells #[.string s] 9 (0, 0)) ∧ w.heap[Bs + 1]? = some (.cells #[.string ⟨#[c]⟩] 9 (0, 0)) ∧ w.heap[Bs + 2]? = some (.cells #[.int .i64 0] 3 (0, 0))
theorem SpB.all {w : World} {Bs : Nat} {s : ByteArray} {c : UInt8} (h : SpB w Bs s c) : w.cell? ⟨Bs, 0, none⟩ = some (.string s) ∧ w.frozen? ⟨Bs, 0, none⟩ = false ∧ w.cell? ⟨Bs + 1, 0, none⟩ = some (.string ⟨#[c]⟩) ∧ w.cell? ⟨Bs + 2, 0, none⟩ = some (.int .i64 0) :=
  ⟨bk_cell h.1 0, bk_free h.1 0, bk_cell h.2.1 0, bk_cell h.2.2 0⟩
theorem SpB.below {w w' : World} {Bs : Nat} {s : ByteArray} {c : UInt8} (h : SpB w Bs s c) (hb : Below w.heap.size w w') : SpB w' Bs s c :=
  ⟨(hb.block _ (bk_lt h.1)).trans h.1, (hb.block _ (bk_lt h.2.1)).trans h.2.1, (hb.block _ (bk_lt h.2.2)).trans h.2.2⟩
theorem SpB.keeps {w w' : World} {own : Nat → Prop} {Bs : Nat} {s : ByteArray} {c : UInt8} (h : SpB w Bs s c) (hb : Keeps own w w') (o0 : ¬ own Bs) (o1 : ¬ own (Bs + 1)) (o2 : ¬ own (Bs + 2)) : SpB w' Bs s c :=
  ⟨hb _ _ o0 h.1 rfl, hb _ _ o1 h.2.1 rfl, hb _ _ o2 h.2.2 rfl⟩
theorem SpB.set {w : World} {Bs : Nat} {s : ByteArray} {c : UInt8} (h : SpB w Bs s c) (s' : ByteArray) : SpB (w.setCell ⟨Bs, 0, none⟩ (.string s')) Bs s' c :=
  ⟨bk_set h.1 0 (.string s'), (Below.heap_setCell w ⟨Bs, 0, none⟩ _ _ (by simp)).trans h.2.1, (Below.heap_setCell w ⟨Bs, 0, none⟩ _ _ (by simp)).trans h.2.2⟩
/-- How long the text in a box is. -/
def szOf (w : World) (b : Nat) : Nat := match w.cell? ⟨b, 0, none⟩ with | some (.string s) => s.size | _ => 0
theorem SpB.sz {w : World} {Bs : Nat} {s : ByteArray} {c : UInt8} (h : SpB w Bs s c) : szOf w Bs = s.size := by unfold szOf; rw [h.all.1]
theorem take_bytes (r : List UInt8) (i : Nat) : (⟨r.toArray⟩ : ByteArray).extract 0 i = ⟨(r.take i).toArray⟩ := by
  apply ByteArray.ext
  simp
theorem drop_bytes (r : List UInt8) (i : Nat) : (⟨r.toArray⟩ : ByteArray).extract i (⟨r.toArray⟩ : ByteArray).size = ⟨(r.drop i).toArray⟩ := by
  apply ByteArray.ext
  apply Array.toList_inj.1
  simp [ByteArray.size, List.take_of_length_le]
theorem splitseq_any (s : ByteArray) (c : UInt8) (w : World) : Calls Tryz.prog 24 #[.string s, .string ⟨#[c]⟩] w fun x w' =>
    x = .returned (.func (.func 59) #[] #[.pointer (some ⟨w.heap.size + 1, 0, none⟩), .pointer (some ⟨w.heap.size, 0, none⟩), .pointer (some ⟨w.heap.size + 2, 0, none⟩)]) ∧ SpB w' w.heap.size s c ∧ Below w.heap.size w w' ∧ w'.heap.size = w.heap.size + 3 := by
  obtain ⟨W, hW⟩ : ∃ W, W = ((w.alloc (.cells #[.string s] 9)).alloc (.cells #[.string ⟨#[c]⟩] 9)).alloc (.cells #[.int .i64 0] 3) := ⟨_, rfl⟩
  have HS : Calls Tryz.prog 40 #[.string s, .string ⟨#[c]⟩, .int .i64 0] w fun x w' =>
      x = .returned (.func (.func 59) #[] #[.pointer (some ⟨w.heap.size + 1, 0, none⟩), .pointer (some ⟨w.heap.size, 0, none⟩), .pointer (some ⟨w.heap.size + 2, 0, none⟩)]) ∧ w' = W := by
    go_enter Tryz.func40, Tryz.ntmps40
    go_wp2
    go_ret
    exact ⟨rfl, hW.symm⟩
  have hsz : W.heap.size = w.heap.size + 3 := by rw [hW]; simp
  have hb : Below w.heap.size w W := by rw [hW]; exact (((Below.refl _ w).alloc (Nat.le_refl _) _).alloc (by simp) _).alloc (by simp; omega) _
  have h0 : W.heap[w.heap.size]? = some (.cells #[.string s] 9 (0, 0)) := by
    rw [hW]
    exact (Below.heap_alloc _ _ _ (by simp; omega)).trans ((Below.heap_alloc _ _ _ (by simp)).trans (heap_alloc_new w _))
  have h1 : W.heap[w.heap.size + 1]? = some (.cells #[.string ⟨#[c]⟩] 9 (0, 0)) := by
    rw [hW]
    refine (Below.heap_alloc _ _ _ (by simp)).trans ?_
    have := heap_alloc_new (w.alloc (.cells #[.string s] 9)) (.cells #[.string ⟨#[c]⟩] 9)
    rw [World.size_alloc] at this
    exact this
  have h2 : W.heap[w.heap.size + 2]? = some (.cells #[.int .i64 0] 3 (0, 0)) := by
    rw [hW]
    have := heap_alloc_new ((w.alloc (.cells #[.string s] 9)).alloc (.cells #[.string ⟨#[c]⟩] 9)) (.cells #[.int .i64 0] 3)
    rw [World.size_alloc, World.size_alloc] at this
    exact this
  have HP : Hid (SpB W w.heap.size s c ∧ Below w.heap.size w W ∧ W.heap.size = w.heap.size + 3) := Lib.hid ⟨⟨h0, h1, h2⟩, hb, hsz⟩
  have HSS := Lib.hid HS
  clear HS hsz hb h0 h1 h2 hW
  go_enter Tryz.func24, Tryz.ntmps24
  go_wp2_with (go_at_call 40; refine HSS.out.mono ?_; rintro x w' ⟨rfl, rfl⟩)
  go_ret
  exact ⟨rfl, HP.out⟩

set_option maxRecDepth 100000 in
set_option maxHeartbeats 4000000 in
theorem split_stops (n : Nat) (hn : 1 ≤ n) (own : Nat → Prop) (Bs : Nat) (c : UInt8) (s : ByteArray) (hs : s.size ≤ 100000) (w : World) (hb : SpB w Bs s c) (o0 : ¬ own Bs) (o1 : ¬ own (Bs + 1)) (o2 : ¬ own (Bs + 2)) :
    Stops Fence.wide n Tryz.prog 59 #[.pointer (some ⟨Bs + 1, 0, none⟩), .pointer (some ⟨Bs, 0, none⟩), .pointer (some ⟨Bs + 2, 0, none⟩)] (fun x : List UInt8 => #[.string ⟨x.toArray⟩]) own Bs (spR c s.data.toList) w := fun l J Jx W hW hJs hY h0 => by
  have SB0 := Lib.hid (hb.below hW)
  have key : ∀ (k : Nat) (x : List UInt8) (A : World), J k A → (spR c s.data.toList)[k]? = some x → Hid (YieldAt Fence.wide (n - 1) Tryz.prog l #[.string ⟨x.toArray⟩] A fun e B => (e = .returned (.bool true) ∧ J (k + 1) B ∧ Keeps own A B ∧ A.heap.size ≤ B.heap.size) ∨ (e = .returned (.bool false) ∧ Jx B)) := fun k x A h1 h2 => Lib.hid (hY k x A h1 h2)
  have KEY := Lib.hid key
  have HJS := Lib.hid hJs
  have OO := Lib.hid (And.intro o0 (And.intro o1 o2))
  have J0 := Lib.hid h0
  have N0 : Hid (s.data.toList.length ≤ 100000) := Lib.hid (by simpa using hs)
  have hsd : (⟨s.data.toList.toArray⟩ : ByteArray) = s := by apply ByteArray.ext; simp
  rw [← hsd] at SB0
  obtain ⟨c0, f0, c1, c2⟩ := SB0.out.all
  obtain ⟨xs, hxs⟩ : ∃ xs, xs = spR c s.data.toList := ⟨_, rfl⟩
  rw [← hxs] at KEY ⊢
  have X0 : Hid (xs.drop 0 = spR c s.data.toList) := Lib.hid (by rw [hxs]; rfl)
  clear hxs
  clear hY hJs key h0 hW hb o0 o1 o2 hs hsd
  refine callsIn_of_wp Tryz.func59 rfl trivial ?_ rfl
  simp only [Tryz.ntmps59, List.size_toArray, List.length_cons, List.length_nil, Nat.reduceAdd, Nat.reduceSub, Array.replicate_succ, Array.replicate_zero, List.push_toArray, List.append_toArray, List.nil_append, List.cons_append]
  gi_wp2
  gi_loopw [7] (fun f wr => ∃ (k : Nat) (r : List UInt8), Hid (J k wr) ∧ Hid (SpB wr Bs ⟨r.toArray⟩ c) ∧ Hid (xs.drop k = spR c r) ∧ Hid (r.length ≤ 100000)) (fun _ wr => szOf wr Bs)
  case atStart => exact ⟨0, s.data.toList, J0, SB0, X0, N0⟩
  case round =>
    clear J0 SB0 X0 N0 c0 f0 c1 c2
    obtain ⟨k, r, JK, SK, XK, NK⟩ := hrel
    obtain ⟨c0, f0, c1, c2⟩ := SK.out.all
    have HIX := Lib.hid (Tryz.strings_Index_one ⟨r.toArray⟩ c wr)
    have hge := Lib.indexByte_ge r c
    have hdl : (⟨r.toArray⟩ : ByteArray).data.toList = r := by simp
    rw [hdl] at HIX
    by_cases hi : Lib.indexByte r c = -1
    · have hsp : spR c r = [r] := spR_last c (no_byte (Lib.indexByte_none hi))
      have hx := XK.out
      rw [hsp] at hx
      have hxk : xs[k]? = some r := by
        have := congrArg (fun y => y[0]?) hx
        simpa using this
      have hxl : xs.length = k + 1 := by
        have := congrArg List.length hx
        have h1 := (List.getElem?_eq_some_iff.1 hxk).1
        simp at this; omega
      obtain ⟨fn, tmps, assign, body, hy, hR⟩ := (KEY.out k r wr JK.out hxk).out
      rw [hi] at HIX
      have HXL := Lib.hid hxl
      clear hi hge hdl hsp hx hxk hxl
      gi_wp2_with (refine ⟨trivial, ?_⟩; gi_at_call 61; refine (callsIn_wide.2 HIX.out).mono ?_; rintro e w' ⟨rfl, rfl⟩)
      refine hR.mono ?_
      rintro e W3 (⟨rfl, hJ3, -, -⟩ | ⟨rfl, hJx3⟩)
      · gi_wp2
        go_end0
        exact ⟨⟨_, rfl⟩, .inl (by rw [HXL.out]; exact hJ3)⟩
      · gi_wp2
        go_end0
        exact ⟨⟨_, rfl⟩, .inr hJx3⟩
    · obtain ⟨i, hi9⟩ : ∃ i : Nat, Lib.indexByte r c = (i : Int) := ⟨(Lib.indexByte r c).toNat, by omega⟩
      obtain ⟨p1, p2⟩ := Lib.indexByte_some hi9
      obtain ⟨p3, p4⟩ := part_byte p1 p2
      have hil : i < r.length := (List.getElem?_eq_some_iff.1 p1).1
      have hsp : spR c r = r.take i :: spR c (r.drop (i + 1)) := by
        conv => lhs; rw [p3]
        exact spR_cut c _ p4
      have hx := XK.out
      rw [hsp] at hx
      have hxk : xs[k]? = some (r.take i) := by
        have := congrArg (fun y => y[0]?) hx
        simpa using this
      have hx1 : xs.drop (k + 1) = spR c (r.drop (i + 1)) := by
        have := congrArg (fun y => y.drop 1) hx
        simpa [List.drop_drop] using this
      obtain ⟨fn, tmps, assign, body, hy, hR⟩ := (KEY.out k (r.take i) wr JK.out hxk).out
      rw [hi9] at HIX
      have hss : (⟨r.toArray⟩ : ByteArray).size = r.length := by simp [ByteArray.size]
      have e1 : (⟨r.toArray⟩ : ByteArray).extract 0 i = ⟨(r.take i).toArray⟩ := take_bytes r i
      have e2 : (⟨r.toArray⟩ : ByteArray).extract (i + 1) r.length = ⟨(r.drop (i + 1)).toArray⟩ := by rw [← hss]; exact drop_bytes r (i + 1)
      have g1 : (i : Int) ≤ (r.length : Int) := by omega
      have g2 : (i : Int) + 1 ≤ (r.length : Int) := by omega
      have g3 : (0 : Int) ≤ (i : Int) := by omega
      have g4 : (0 : Int) ≤ (i : Int) + 1 := by omega
      have g5 : ((i : Int) + 1).toNat = i + 1 := by omega
      have g6 : (r.length : Int) ≤ 100000 := by have := NK.out; omega
      have HX1 := Lib.hid hx1
      have NK1 : Hid ((r.drop (i + 1)).length ≤ 100000) := Lib.hid (by rw [List.length_drop]; have := NK.out; omega)
      have LT : Hid ((r.drop (i + 1)).length < r.length) := Lib.hid (by rw [List.length_drop]; omega)
      have SZ : Hid (szOf wr Bs = r.length) := Lib.hid (by rw [SK.out.sz, hss])
      clear hi hge hdl hsp hx hxk hx1 p1 p2 p3 p4 hi9 hil
      gi_wp2_with (refine ⟨trivial, ?_⟩; gi_at_call 61; refine (callsIn_wide.2 HIX.out).mono ?_; rintro e w' ⟨rfl, rfl⟩)
      refine hR.mono ?_
      rintro e W3 (⟨rfl, hJ3, hK3, hs3⟩ | ⟨rfl, hJx3⟩)
      · have S3 := Lib.hid (SK.out.keeps hK3 OO.out.1 OO.out.2.1 OO.out.2.2)
        obtain ⟨d0, q0, d1, d2⟩ := S3.out.all
        have J3 := Lib.hid (HJS.out (k + 1) W3 0 (.string ⟨(r.drop (i + 1)).toArray⟩) hJ3)
        have S4 := Lib.hid (S3.out.set ⟨(r.drop (i + 1)).toArray⟩)
        have Z4 : Hid (szOf (W3.setCell ⟨Bs, 0, none⟩ (.string ⟨(r.drop (i + 1)).toArray⟩)) Bs < r.length) := Lib.hid (by rw [S4.out.sz]; simpa [ByteArray.size] using LT.out)
        clear hJ3 hK3 hs3 c0 f0 c1 c2
        gi_wp2
        exact ⟨⟨k + 1, r.drop (i + 1), J3, S4, HX1, NK1⟩, by rw [SZ.out]; exact Z4.out⟩
      · clear c0 f0 c1 c2
        gi_wp2
        refine bodyPost_ret (results_none rfl _ _ _) rfl ?_
        exact ⟨⟨_, rfl⟩, .inr hJx3⟩

end Go.Proofs.YtdonicaiimeleaaGreatDoor
