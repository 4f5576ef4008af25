/- Merged: ListAA, ListAF, ListAK, ListAQ. -/
import Derived.Test.YtdonicaiimeleaaGreatDoorGListParses44
import Derived.Test.YtdonicaiimeleaaGreatDoorGListParses45
import Derived.Test.YtdonicaiimeleaaGreatDoorGListParses42
import Derived.Test.YtdonicaiimeleaaGreatDoorGListParses18
import Derived.Test.YtdonicaiimeleaaGreatDoorGListParses26
import Derived.Test.YtdonicaiimeleaaGreatDoorGListParses3
import Derived.Test.YtdonicaiimeleaaGreatDoorGListParses17
namespace Go.Proofs.YtdonicaiimeleaaGreatDoor
open Go.RowKit Go.Shelf Go.WideShapes Go.ChangeShapes
attribute [local go_sem] Oper.semAt_some
set_option linter.unusedVariables false
set_option linter.unusedSimpArgs false

/-! ### lines -/
theorem ln_inv (l : List UInt8) : ∀ i, i ≤ l.length → (∀ j, (lnS l i).2 ≤ j → j < i → l[j]? ≠ some 10) ∧ spR 10 l = (lnS l i).1 ++ spR 10 (l.drop (lnS l i).2)
  | 0, _ => ⟨fun j _ h => absurd h (Nat.not_lt_zero _), by simp [lnS]⟩
  | i + 1, h => by
    obtain ⟨h1, h2⟩ := ln_inv l i (by omega)
    have hf := lnS_le l i
    rw [lnS]
    by_cases h10 : l[i]? = some 10
    · rw [if_pos h10]
      refine ⟨fun j a b => by dsimp at a; omega, ?_⟩
      rw [h2]
      obtain ⟨f, hff⟩ : ∃ f, f = (lnS l i).2 := ⟨_, rfl⟩
      rw [← hff] at h1 hf ⊢
      have a1 : (l.drop f)[i - f]? = some 10 := by rw [List.getElem?_drop, show f + (i - f) = i by omega]; exact h10
      have a2 : ∀ k : Nat, k < i - f → (l.drop f)[k]? ≠ some 10 := fun k hk => by rw [List.getElem?_drop]; exact h1 (f + k) (by omega) (by omega)
      obtain ⟨p1, p2⟩ := part_byte a1 a2
      have e : spR 10 (l.drop f) = (l.drop f).take (i - f) :: spR 10 ((l.drop f).drop (i - f + 1)) := by
        conv => lhs; rw [p1]
        exact spR_cut 10 _ p2
      rw [e, List.drop_drop, show f + (i - f + 1) = i + 1 by omega]; simp
    · rw [if_neg h10]
      refine ⟨fun j a b => ?_, h2⟩
      by_cases e : j = i
      · subst e; exact h10
      · exact h1 j a (by omega)
/-- The pieces between line feeds are the lines, but for an empty one at the end. -/
theorem ln_sp (l : List UInt8) : spR 10 l = lnL l ∨ spR 10 l = lnL l ++ [[]] := by
  obtain ⟨h1, h2⟩ := ln_inv l l.length (Nat.le_refl _)
  have hl : spR 10 (l.drop (lnS l l.length).2) = [l.drop (lnS l l.length).2] := spR_last 10 (no_byte fun k hk => by
    rw [List.getElem?_drop] at hk
    have hlt := (List.getElem?_eq_some_iff.1 hk).1
    exact h1 _ (Nat.le_add_right _ _) hlt hk)
  rw [hl] at h2
  unfold lnL
  by_cases hf : (lnS l l.length).2 < l.length
  · rw [if_pos hf]; exact .inl h2
  · rw [if_neg hf]
    right
    rw [h2, List.drop_eq_nil_of_le (by omega)]
theorem spR_len (c : UInt8) : ∀ l : List UInt8, (spR c l).length ≤ l.length + 1 ∧ ∀ x ∈ spR c l, x.length ≤ l.length
  | [] => by simp [spR]
  | b :: l => by
    obtain ⟨h1, h2⟩ := spR_len c l
    rw [spR]
    split
    · refine ⟨by simp; omega, fun x hx => ?_⟩
      rcases List.mem_cons.1 hx with rfl | hx
      · simp
      · have := h2 x hx; simp; omega
    · cases h : spR c l with
      | nil => exact absurd h (spR_ne c l)
      | cons y ys =>
        rw [h] at h1 h2
        refine ⟨by simp at h1 ⊢; omega, fun x hx => ?_⟩
        rcases List.mem_cons.1 hx with rfl | hx
        · have := h2 y (by simp); simp; omega
        · have := h2 x (by simp [hx]); simp; omega

/-! ### what stays -/
theorem Ls.far {lo q k : Nat} {w w' : World} {r : Rd11} (h : Ls lo w q r) (hb : w.grownBy w' (some k)) (hk : k < lo) (hq : k ≠ q) : Ls lo w' q r := by
  obtain ⟨pu, pe, pd, A, c, S, h1, h2, h3, h4, h5, h6⟩ := h
  have bx : ∀ b : Nat, lo ≤ b → ∀ o, w.heap[b]? = some o → w'.heap[b]? = some o := fun b hb' o ho => (hb.block b (Array.getElem?_eq_some_iff.1 ho).1 (by intro e; injection e with e; omega)).trans ho
  have pz : ∀ {p m v}, Pz lo w p m v → Pz lo w' p m v := fun {p m v} h => by
    rcases h with h | ⟨a, b, c, d, e⟩
    · exact .inl h
    · exact .inr ⟨a, b, c, d, bx b d _ e⟩
  refine ⟨pu, pe, pd, A, c, S, (hb.block q (bk_lt h1) (by intro e; injection e with e; exact hq e.symm)).trans h1, pz h2, pz h3, ?_, ?_, h6⟩
  · refine ⟨h4.1, ?_⟩
    rcases h4.2 with h0 | ⟨g', cap, cur, k1, k2, k3, k4⟩
    · exact .inl h0
    · exact .inr ⟨g', cap, cur, k1, k2, bx g' k2 _ k3, k4⟩
  · rcases h5 with h | ⟨a, b, c, d, e⟩
    · exact .inl h
    · exact .inr ⟨a, b, c, d, bx b d _ e⟩
theorem Ls.book {lo lo' q : Nat} {w w' : World} {r : Rd11} (h : Ls lo w q r) (hb : Book lo' w w') : Ls lo w' q r := by
  obtain ⟨pu, pe, pd, A, c, S, h1, h2, h3, h4, h5, h6⟩ := h
  have pz : ∀ {p m v}, Pz lo w p m v → Pz lo w' p m v := fun {p m v} h => by
    rcases h with h | ⟨a, b, c, d, e⟩
    · exact .inl h
    · exact .inr ⟨a, b, c, d, hb.keep _ _ e (.inr rfl)⟩
  refine ⟨pu, pe, pd, A, c, S, hb.keep _ _ h1 (.inr rfl), pz h2, pz h3, ?_, ?_, h6⟩
  · refine ⟨h4.1, ?_⟩
    rcases h4.2 with h0 | ⟨g', cap, cur, k1, k2, k3, k4⟩
    · exact .inl h0
    · exact .inr ⟨g', cap, cur, k1, k2, hb.keep _ _ k3 (.inr rfl), k4⟩
  · rcases h5 with h | ⟨a, b, c, d, e⟩
    · exact .inl h
    · exact .inr ⟨a, b, c, d, hb.keep _ _ e (.inr rfl)⟩
/-- The list's zero value. -/
abbrev zl4 : Array Value := #[.pointer none, .pointer none, .slice none 0 0, .pointer none]
/-- The five boxes of read: its results, the list, the number; what has been read. -/
structure Rdi (w : World) (lo : Nat) (ls : List (List UInt8)) (k : Nat) (W : World) : Prop where
  hls : Ls lo W (w.heap.size + 1 + 1 + 1) (alR ls k)
  nb : W.heap[w.heap.size + 1 + 1 + 1 + 1]? = some (.cells #[.int .i64 (k : Int)] 3 (0, 0))
  r0 : W.heap[w.heap.size]? = some (.cells zl4 50 (0, 0))
  r1 : W.heap[w.heap.size + 1]? = some (.cells #[.int .i64 0] 3 (0, 0))
  r2 : W.heap[w.heap.size + 1 + 1]? = some (.cells #[.nilIface] 25 (0, 0))
  good : alG ls k
  bel : Below w.heap.size w W
  sz : lo ≤ W.heap.size
theorem Rdi.book {w A B : World} {lo lo' k : Nat} {ls : List (List UInt8)} (h : Rdi w lo ls k A) (hb : Book lo' A B) (hl : w.heap.size ≤ lo') (hl2 : lo' ≤ A.heap.size) : Rdi w lo ls k B :=
  ⟨h.hls.book hb, hb.keep _ _ h.nb (.inr rfl), hb.keep _ _ h.r0 (.inr rfl), hb.keep _ _ h.r1 (.inr rfl), hb.keep _ _ h.r2 (.inr rfl), h.good, h.bel.trans ((hb.bel hl2).mono hl), Nat.le_trans h.sz hb.size⟩
theorem Rdi.box {w A : World} {lo k b i : Nat} {v : Value} {ls : List (List UInt8)} (h : Rdi w lo ls k A) (hb : b < lo) (h5 : w.heap.size + 5 ≤ b) : Rdi w lo ls k (A.setCell ⟨b, i, none⟩ v) :=
  have ho : ∀ j, j ≠ b → (A.setCell ⟨b, i, none⟩ v).heap[j]? = A.heap[j]? := fun j hj => Below.heap_setCell A _ v j (by simpa using hj)
  ⟨h.hls.far (gb_set (gb_refl A (some b)) i v) hb (by omega), (ho _ (by omega)).trans h.nb, (ho _ (by omega)).trans h.r0, (ho _ (by omega)).trans h.r1, (ho _ (by omega)).trans h.r2, h.good, h.bel.setCell (p := ⟨b, i, none⟩) (by show w.heap.size ≤ b; omega) v, by
    have : (A.setCell ⟨b, i, none⟩ v).heap.size = A.heap.size := by simp [World.setCell]
    rw [this]; exact h.sz⟩
/-- Where a line was wrong. -/
structure Rdx (w : World) (lo : Nat) (ls : List (List UInt8)) (W : World) (K : Nat) : Prop where
  sz : lo ≤ W.heap.size
  lt : K < ls.length
  good : alG ls K
  bad : on11 (alR ls K) (ls.getD K []) ≠ 0
  r0 : W.heap[w.heap.size]? = some (.cells zl4 50 (0, 0))
  r1 : W.heap[w.heap.size + 1]? = some (.cells #[.int .i64 ((K : Int) + 1)] 3 (0, 0))
  r2 : W.heap[w.heap.size + 1 + 1]? = some (.cells #[ev (on11 (alR ls K) (ls.getD K []))] 25 (0, 0))
  bel : Below w.heap.size w W
theorem Rdx.book {w A B : World} {K lo lo' : Nat} {ls : List (List UInt8)} (h : Rdx w lo ls A K) (hb : Book lo' A B) (hl : w.heap.size ≤ lo') (hl2 : lo' ≤ A.heap.size) : Rdx w lo ls B K :=
  ⟨Nat.le_trans h.sz hb.size, h.lt, h.good, h.bad, hb.keep _ _ h.r0 (.inr rfl), hb.keep _ _ h.r1 (.inr rfl), hb.keep _ _ h.r2 (.inr rfl), h.bel.trans ((hb.bel hl2).mono hl)⟩
/-- What has been read, by value. -/
def Lv (w : World) (r : Rd11) (cs : Array Value) : Prop := ∃ pu pe pd A c S, cs = #[.pointer pu, .pointer pe, .slice A r.L.length c, .pointer pd] ∧ Pz 0 w pu r.m r.u ∧ Pz 0 w pe r.h r.e ∧ (Rp w.heap.size w A r.L ∧ (A = none → c = 0 ∧ r.L = []) ∧ r.L.length ≤ c ∧ c ≤ maxLen) ∧ Pd 0 w pd r.s (byt S) ∧ X5 r S
theorem Pz.zero {lo : Nat} {w : World} {p : Option Addr} {m v : Int} (h : Pz lo w p m v) : Pz 0 w p m v := by
  rcases h with h | ⟨a, b, c, d, e⟩
  · exact .inl h
  · exact .inr ⟨a, b, c, Nat.zero_le _, e⟩
theorem Pd.zero {lo : Nat} {w : World} {p : Option Addr} {s : Int} {D : List UInt8} (h : Pd lo w p s D) : Pd 0 w p s D := by
  rcases h with h | ⟨a, b, c, d, e⟩
  · exact .inl h
  · exact .inr ⟨a, b, c, Nat.zero_le _, e⟩
theorem Lv.below {w w' : World} {r : Rd11} {cs : Array Value} (h : Lv w r cs) (hb : Below w.heap.size w w') : Lv w' r cs := by
  obtain ⟨pu, pe, pd, A, c, S, h1, h2, h3, ⟨h4, h4'⟩, h5, h6⟩ := h
  exact ⟨pu, pe, pd, A, c, S, h1, h2.kept (gb_of_below hb) (ty_none _ _), h3.kept (gb_of_below hb) (ty_none _ _), ⟨(h4.keep hb).low, h4'⟩, h5.kept (gb_of_below hb) (ty_none _ _), h6⟩
theorem Ls.lv {lo q : Nat} {w : World} {r : Rd11} (h : Ls lo w q r) : ∃ cs, w.heap[q]? = some (.cells cs 50 (0, 0)) ∧ Lv w r cs := by
  obtain ⟨pu, pe, pd, A, c, S, h1, h2, h3, h4, h5, h6⟩ := h
  obtain ⟨A', c', e, a1, a2, a3, a4, -⟩ := h4.reads
  injection e with e _ e2
  subst e; subst e2
  exact ⟨_, h1, pu, pe, pd, A, c, S, rfl, h2.zero, h3.zero, ⟨a1, a2, a3, a4⟩, h5.zero, h6⟩

end Go.Proofs.YtdonicaiimeleaaGreatDoor

namespace Go.Proofs.YtdonicaiimeleaaGreatDoor
open Go.RowKit Go.WideShapes Go.ChangeShapes
set_option linter.unusedVariables false
set_option linter.unusedSimpArgs false

theorem pt_dec {n : Int} (h : 0 ≤ n) : ptL n 0 = Lib.decDigits n.natAbs := by
  unfold ptL
  rw [if_neg (by decide), if_neg (by omega)]
  simp [pad]
theorem pt_len {n : Int} {k : Nat} (h : 0 ≤ n) (hk : 1 ≤ k) (hn : n.natAbs < 10 ^ k) : (ptL n 0).length ≤ k := by
  rw [pt_dec h]; exact dec_len hk hn
theorem vr_tail {r : Rw} {L : List Rw} (h : ∀ j, j < (r :: L).length → -25567 ≤ rd (r :: L) j ∧ rd (r :: L) j ≤ 2932896 ∧ 0 ≤ ro (r :: L) j ∧ ro (r :: L) j ≤ 1000) :
    (-25567 ≤ r.d ∧ r.d ≤ 2932896 ∧ 0 ≤ r.o ∧ r.o ≤ 1000) ∧ ∀ j, j < L.length → -25567 ≤ rd L j ∧ rd L j ≤ 2932896 ∧ 0 ≤ ro L j ∧ ro L j ≤ 1000 :=
  ⟨by simpa [rd, ro] using h 0 (by simp), fun j hj => by simpa [rd, ro] using h (j + 1) (by simp; omega)⟩
theorem dgR_len : ∀ (L : List Rw), (∀ j, j < L.length → -25567 ≤ rd L j ∧ rd L j ≤ 2932896 ∧ 0 ≤ ro L j ∧ ro L j ≤ 1000) → (dgR L).length ≤ 16 * L.length
  | [], _ => by simp [dgR]
  | r :: L, h => by
    obtain ⟨⟨h1, h2, h3, h4⟩, ht⟩ := vr_tail h
    have ih := dgR_len L ht
    have a1 : (ptL (sc11 r.d) 0).length ≤ 12 := pt_len (by unfold sc11; omega) (by decide) (by unfold sc11; omega)
    have a2 : (ptL r.o 0).length ≤ 4 := pt_len h3 (by decide) (by omega)
    show (ptL (sc11 r.d) 0 ++ ptL r.o 0 ++ dgR L).length ≤ 16 * (L.length + 1)
    simp only [List.length_append]; omega
theorem rows11_of {L : List Rw} {u e : Int} (h : lkE L u e = 0) : Rows11 L u e := by
  obtain ⟨v, ⟨hu1, hu2⟩, he1, he2⟩ := lkE_zero h
  have hr : ∀ j, j < L.length → -25567 ≤ rd L j ∧ rd L j ≤ 2932896 ∧ 0 ≤ ro L j ∧ ro L j ≤ 1000 := fun j hj => ⟨(v.day j hj).1, (v.day j hj).2, (v.off j hj).1, (v.off j hj).2⟩
  have hl := dgR_len L hr
  have hf := v.few
  have a1 : (ptL u 0).length ≤ 13 := pt_len hu1 (by decide) (by omega)
  have a2 : (ptL e 0).length ≤ 13 := pt_len he1 (by decide) (by omega)
  refine ⟨by unfold fits; omega, by unfold fits; omega, by omega, fun j hj => by have := hr j hj; omega, fun j hj => by have := hr j hj; unfold fits; omega, ?_⟩
  simp only [dgT, List.length_append]; omega

/-! ### digests compared -/
theorem ite_ok {p : Prop} {i1 i2 : Decidable p} (b : Bool) (w : World) (R : Result Bool) (h : R = .ok b w) : (@ite _ p i1 R (.ok false w)) = .ok (@decide p i2 && b) w := by
  by_cases c : p
  · rw [if_pos c, decide_eq_true c, h]; rfl
  · rw [if_neg c, decide_eq_false c]; rfl
set_option maxRecDepth 100000 in
set_option maxHeartbeats 4000000 in
theorem eq20 (a0 a1 a2 a3 a4 a5 a6 a7 a8 a9 a10 a11 a12 a13 a14 a15 a16 a17 a18 a19 b0 b1 b2 b3 b4 b5 b6 b7 b8 b9 b10 b11 b12 b13 b14 b15 b16 b17 b18 b19 : Int) (w : World) : (Op.equalIn 10000 74 (.agg #[.int .u8 a0, .int .u8 a1, .int .u8 a2, .int .u8 a3, .int .u8 a4, .int .u8 a5, .int .u8 a6, .int .u8 a7, .int .u8 a8, .int .u8 a9, .int .u8 a10, .int .u8 a11, .int .u8 a12, .int .u8 a13, .int .u8 a14, .int .u8 a15, .int .u8 a16, .int .u8 a17, .int .u8 a18, .int .u8 a19]) (.agg #[.int .u8 b0, .int .u8 b1, .int .u8 b2, .int .u8 b3, .int .u8 b4, .int .u8 b5, .int .u8 b6, .int .u8 b7, .int .u8 b8, .int .u8 b9, .int .u8 b10, .int .u8 b11, .int .u8 b12, .int .u8 b13, .int .u8 b14, .int .u8 b15, .int .u8 b16, .int .u8 b17, .int .u8 b18, .int .u8 b19])).run Tryz.prog w = .ok (decide ([a0, a1, a2, a3, a4, a5, a6, a7, a8, a9, a10, a11, a12, a13, a14, a15, a16, a17, a18, a19] = [b0, b1, b2, b3, b4, b5, b6, b7, b8, b9, b10, b11, b12, b13, b14, b15, b16, b17, b18, b19])) w := by
  have u3 := Tryz.underlying5
  have a3 := Tryz.isAgg5
  have z3 := Tryz.sizeOf5
  rw [show (10000 : Nat) = 9999 + 1 from rfl, Op.equalIn]
  simp only [Sem.run_bind, run_underlying Tryz.underlying74, Result.andThen_ok]
  simp only [Std.Legacy.Range.forIn_eq_forIn_range', Std.Legacy.Range.size, Nat.sub_zero, Nat.add_sub_cancel, Nat.div_one, List.range'_succ, List.range'_zero, List.forIn_cons, List.forIn_nil]
  go_simp
  clear u3 a3 z3
  iterate 19 refine ite_ok _ _ _ ?_
  by_cases h : a19 = b19
  · rw [if_pos h, decide_eq_true h]
  · rw [if_neg h, decide_eq_false h]
theorem eq_digs (D E : List UInt8) (hD : D.length = 20) (hE : E.length = 20) (w : World) : (Op.equalIn 10000 74 (.agg (bc D).toArray) (.agg (bc E).toArray)).run Tryz.prog w = .ok (decide (D = E)) w := by
  match D, hD, E, hE with
  | [a0, a1, a2, a3, a4, a5, a6, a7, a8, a9, a10, a11, a12, a13, a14, a15, a16, a17, a18, a19], _, [b0, b1, b2, b3, b4, b5, b6, b7, b8, b9, b10, b11, b12, b13, b14, b15, b16, b17, b18, b19], _ =>
    refine (eq20 _ _ _ _ _ _ _ _ _ _ _ _ _ _ _ _ _ _ _ _ _ _ _ _ _ _ _ _ _ _ _ _ _ _ _ _ _ _ _ _ w).trans ?_
    congr 1
    apply decide_eq_decide.2
    have k : ∀ a b : UInt8, ((a.toNat : Int) = (b.toNat : Int)) ↔ a = b := fun a b => ⟨fun h => UInt8.toNat_inj.1 (by omega), fun h => by rw [h]⟩
    simp only [List.cons.injEq, k]

end Go.Proofs.YtdonicaiimeleaaGreatDoor

namespace Go.Proofs.YtdonicaiimeleaaGreatDoor
open Go.RowKit
set_option linter.unusedVariables false

theorem wd_nil11 : wdL [] = [] := by decide
theorem on_nil11 (r : Rd11) : on11 r [] = 0 := by unfold on11; rw [wd_nil11, if_pos rfl]
theorem getD_app11 (ls : List (List UInt8)) {K : Nat} (h : K < ls.length) : (ls ++ [[]]).getD K [] = ls.getD K [] := by
  simp [List.getD, List.getElem?_append_left h]
theorem getD_end11 (ls : List (List UInt8)) : (ls ++ [[]]).getD ls.length [] = [] := by simp [List.getD]
theorem al_app11 (ls : List (List UInt8)) : ∀ K, K ≤ ls.length → alR (ls ++ [[]]) K = alR ls K
  | 0, _ => rfl
  | K + 1, h => by rw [alR, alR, al_app11 ls K (by omega), getD_app11 ls (by omega)]
theorem alG_app11 (ls : List (List UInt8)) {K : Nat} (h : K ≤ ls.length) : alG (ls ++ [[]]) K ↔ alG ls K := by
  constructor
  · intro g j hj
    have := g j hj
    rwa [al_app11 ls j (by omega), getD_app11 ls (by omega)] at this
  · intro g j hj
    rw [al_app11 ls j (by omega), getD_app11 ls (by omega)]
    exact g j hj
theorem alG_sp (l : List UInt8) : alG (spR 10 l) (spR 10 l).length ↔ alG (lnL l) (lnL l).length := by
  rcases ln_sp l with h | h
  · rw [h]
  · rw [h, List.length_append]
    constructor
    · intro g
      exact (alG_app11 _ (Nat.le_refl _)).1 fun j hj => g j (by simp; omega)
    · intro g j hj
      by_cases c : j < (lnL l).length
      · exact (alG_app11 _ (Nat.le_refl _)).2 g j c
      · have e : j = (lnL l).length := by simp at hj; omega
        subst e
        rw [getD_end11, on_nil11]
/-- The first wrong piece is the first wrong line. -/
theorem bad_sp (l : List UInt8) (K : Nat) : (K < (spR 10 l).length ∧ alG (spR 10 l) K ∧ on11 (alR (spR 10 l) K) ((spR 10 l).getD K []) ≠ 0) ↔ (K < (lnL l).length ∧ alG (lnL l) K ∧ on11 (alR (lnL l) K) ((lnL l).getD K []) ≠ 0) := by
  rcases ln_sp l with h | h
  · rw [h]
  · rw [h, List.length_append]
    constructor
    · rintro ⟨h1, h2, h3⟩
      by_cases c : K < (lnL l).length
      · rw [al_app11 _ _ (by omega), getD_app11 _ c] at h3
        exact ⟨c, (alG_app11 _ (by omega)).1 h2, h3⟩
      · have e : K = (lnL l).length := by simp at h1; omega
        subst e
        rw [getD_end11, on_nil11] at h3
        exact absurd rfl h3
    · rintro ⟨h1, h2, h3⟩
      refine ⟨by simp; omega, (alG_app11 _ (by omega)).2 h2, ?_⟩
      rw [al_app11 _ _ (by omega), getD_app11 _ h1]
      exact h3
end Go.Proofs.YtdonicaiimeleaaGreatDoor

namespace Go.Proofs.YtdonicaiimeleaaGreatDoor
open Go.RowKit
set_option linter.unusedVariables false

abbrev zr11 : Rd11 := ⟨[], 0, 0, 0, 0, 0, 0, 0, 0, 0, 0⟩
theorem alR_fold (ls : List (List UInt8)) : ∀ K, K ≤ ls.length → alR ls K = (ls.take K).foldl nx11 zr11
  | 0, _ => rfl
  | K + 1, h => by
    rw [alR, alR_fold ls K (by omega), List.take_succ_eq_append_getElem (by omega), List.foldl_append]
    simp [List.getD, List.getElem?_eq_getElem (show K < ls.length by omega)]
end Go.Proofs.YtdonicaiimeleaaGreatDoor
