/- Merged: ListAB. -/
import Derived.Test.YtdonicaiimeleaaGreatDoorGListParses46
namespace Go.Proofs.YtdonicaiimeleaaGreatDoor
open Go.RowKit Go.Shelf Go.WideShapes Go.ChangeShapes
attribute [local go_sem] Oper.semAt_some
set_option linter.unusedVariables false
set_option linter.unusedSimpArgs false

/-- What read answers, by the pieces between line feeds. -/
def ReP (ls : List (List UInt8)) (w : World) (x : Ending) (w' : World) : Prop :=
  ((∃ cs, x = .returned (.tuple #[.agg cs, .int .i64 0, ev 0]) ∧ alG ls ls.length ∧ Lv w' (alR ls ls.length) cs) ∨
    ∃ K, K < ls.length ∧ alG ls K ∧ on11 (alR ls K) (ls.getD K []) ≠ 0 ∧ x = .returned (.tuple #[.agg zl4, .int .i64 ((K : Int) + 1), ev (on11 (alR ls K) (ls.getD K []))])) ∧ Below w.heap.size w w'
set_option maxRecDepth 100000 in
set_option maxHeartbeats 4000000 in
theorem read_long (t : ByteArray) (w : World) (ht : ¬ t.size ≤ 65535) : Calls Tryz.prog 12 #[.string t] w fun x w' => x = .returned (.tuple #[.agg zl4, .int .i64 0, ev 3]) ∧ Below w.heap.size w w' := by
  have hz : (t.size : Int) > 65535 := by omega
  obtain ⟨W3, hW3⟩ : ∃ W3, W3 = ((w.alloc (.cells zl4 50)).alloc (.cells #[.int .i64 0] 3)).alloc (.cells #[.nilIface] 25) := ⟨_, rfl⟩
  have b3 : Below w.heap.size w W3 := by rw [hW3]; exact (((Below.refl _ w).alloc (Nat.le_refl _) _).alloc (by simp) _).alloc (by simp; omega) _
  have h0 : W3.heap[w.heap.size]? = some (.cells zl4 50 (0, 0)) := by
    rw [hW3]
    exact (Below.heap_alloc _ _ _ (by simp; omega)).trans ((Below.heap_alloc _ _ _ (by simp)).trans (heap_alloc_new w _))
  have h1 : W3.heap[w.heap.size + 1]? = some (.cells #[.int .i64 0] 3 (0, 0)) := by
    rw [hW3]
    refine (Below.heap_alloc _ _ _ (by simp)).trans ?_
    have := heap_alloc_new (w.alloc (.cells zl4 50)) (.cells #[.int .i64 0] 3)
    rw [World.size_alloc] at this
    exact this
  have h2 : W3.heap[w.heap.size + 1 + 1]? = some (.cells #[.nilIface] 25 (0, 0)) := by
    rw [hW3]
    have := heap_alloc_new ((w.alloc (.cells zl4 50)).alloc (.cells #[.int .i64 0] 3)) (.cells #[.nilIface] 25)
    rw [World.size_alloc, World.size_alloc] at this
    exact this
  have c0 : W3.cell? ⟨w.heap.size, 0, none⟩ = some (.pointer none) := bk_cell h0 0
  have c1 : W3.cell? ⟨w.heap.size, 1, none⟩ = some (.pointer none) := bk_cell h0 1
  have c2 : W3.cell? ⟨w.heap.size, 2, none⟩ = some (.slice none 0 0) := bk_cell h0 2
  have c3 : W3.cell? ⟨w.heap.size, 3, none⟩ = some (.pointer none) := bk_cell h0 3
  have f0 := bk_free h0 0
  have f1 := bk_free h0 1
  have f2 := bk_free h0 2
  have f3 := bk_free h0 3
  have c4 : W3.cell? ⟨w.heap.size + 1, 0, none⟩ = some (.int .i64 0) := bk_cell h1 0
  have f4 := bk_free h1 0
  have c5 : W3.cell? ⟨w.heap.size + 1 + 1, 0, none⟩ = some .nilIface := bk_cell h2 0
  have f5 := bk_free h2 0
  have B3 := Lib.hid b3
  clear ht b3 h0 h1 h2
  go_enter Tryz.func12, Tryz.ntmps12
  go_upto_region 1 with fail
  rw [← hW3]
  clear hW3
  go_wp2
  refine bodyPost_ret (v := .tuple #[.agg zl4, .int .i64 0, ev 3]) (by simp [results, Tryz.results12, go_sem, ev, c0, c1, c2, c3, c4, c5]) rfl ⟨rfl, ?_⟩
  exact (((((B3.out.setCell (p := ⟨w.heap.size, 0, none⟩) (Nat.le_refl _) _).setCell (p := ⟨w.heap.size, 1, none⟩) (Nat.le_refl _) _).setCell (p := ⟨w.heap.size, 2, none⟩) (Nat.le_refl _) _).setCell (p := ⟨w.heap.size, 3, none⟩) (Nat.le_refl _) _).setCell (p := ⟨w.heap.size + 1, 0, none⟩) (Nat.le_succ _) _).setCell (p := ⟨w.heap.size + 1 + 1, 0, none⟩) (Nat.le_trans (Nat.le_succ _) (Nat.le_succ _)) _

/-- The five boxes, made. -/
theorem five_boxes (w : World) (ls : List (List UInt8)) : ∃ W5, W5 = ((((w.alloc (.cells zl4 50)).alloc (.cells #[.int .i64 0] 3)).alloc (.cells #[.nilIface] 25)).alloc (.cells zl4 50)).alloc (.cells #[.int .i64 0] 3) ∧
    W5.heap.size = w.heap.size + 5 ∧ Below w.heap.size w W5 ∧ ∀ lo W, Below W5.heap.size W5 W → lo ≤ W.heap.size → Rdi w lo ls 0 W := by
  refine ⟨_, rfl, by simp, ((((((Below.refl _ w).alloc (Nat.le_refl _) _).alloc (by simp) _).alloc (by simp; omega) _).alloc (by simp; omega) _).alloc (by simp; omega) _), ?_⟩
  intro lo W hb hlo
  obtain ⟨A, hA⟩ : ∃ A, A = w.alloc (.cells zl4 50) := ⟨_, rfl⟩
  obtain ⟨B, hB⟩ : ∃ B, B = A.alloc (.cells #[.int .i64 0] 3) := ⟨_, rfl⟩
  obtain ⟨C, hC⟩ : ∃ C, C = B.alloc (.cells #[.nilIface] 25) := ⟨_, rfl⟩
  obtain ⟨D, hD⟩ : ∃ D, D = C.alloc (.cells zl4 50) := ⟨_, rfl⟩
  obtain ⟨E, hE⟩ : ∃ E, E = D.alloc (.cells #[.int .i64 0] 3) := ⟨_, rfl⟩
  rw [← hA, ← hB, ← hC, ← hD, ← hE] at hb
  have sA : A.heap.size = w.heap.size + 1 := by rw [hA]; simp
  have sB : B.heap.size = w.heap.size + 1 + 1 := by rw [hB]; simp [sA]
  have sC : C.heap.size = w.heap.size + 1 + 1 + 1 := by rw [hC]; simp [sB]
  have sD : D.heap.size = w.heap.size + 1 + 1 + 1 + 1 := by rw [hD]; simp [sC]
  have bA : Below A.heap.size A B := by rw [hB]; exact (Below.refl _ A).alloc (Nat.le_refl _) _
  have bB : Below B.heap.size B C := by rw [hC]; exact (Below.refl _ B).alloc (Nat.le_refl _) _
  have bC : Below C.heap.size C D := by rw [hD]; exact (Below.refl _ C).alloc (Nat.le_refl _) _
  have bD : Below D.heap.size D E := by rw [hE]; exact (Below.refl _ D).alloc (Nat.le_refl _) _
  have bw : Below w.heap.size w A := by rw [hA]; exact (Below.refl _ w).alloc (Nat.le_refl _) _
  have dW : Below D.heap.size D W := bD.trans (hb.mono bD.size)
  have cW : Below C.heap.size C W := bC.trans (dW.mono bC.size)
  have bW : Below B.heap.size B W := bB.trans (cW.mono bB.size)
  have aW : Below A.heap.size A W := bA.trans (bW.mono bA.size)
  have hA' : A.heap[w.heap.size]? = some (.cells zl4 50 (0, 0)) := by rw [hA]; exact heap_alloc_new w _
  have hB' : B.heap[w.heap.size + 1]? = some (.cells #[.int .i64 0] 3 (0, 0)) := by rw [← sA, hB]; exact heap_alloc_new A _
  have hC' : C.heap[w.heap.size + 1 + 1]? = some (.cells #[.nilIface] 25 (0, 0)) := by rw [← sB, hC]; exact heap_alloc_new B _
  have hD' : D.heap[w.heap.size + 1 + 1 + 1]? = some (.cells zl4 50 (0, 0)) := by rw [← sC, hD]; exact heap_alloc_new C _
  have hE' : E.heap[w.heap.size + 1 + 1 + 1 + 1]? = some (.cells #[.int .i64 0] 3 (0, 0)) := by rw [← sD, hE]; exact heap_alloc_new D _
  refine ⟨⟨none, none, none, none, 0, zs5, (dW.block _ (bk_lt hD')).trans hD', .inl ⟨rfl, rfl⟩, .inl ⟨rfl, rfl⟩, Ow.nil _ _ _, .inl ⟨rfl, rfl⟩, fun h => absurd h (show ¬ (0 : Int) < 0 by decide)⟩, (hb.block _ (bk_lt hE')).trans hE', (aW.block _ (bk_lt hA')).trans hA', (bW.block _ (bk_lt hB')).trans hB', (cW.block _ (bk_lt hC')).trans hC', fun j hj => absurd hj (Nat.not_lt_zero _), bw.trans (aW.mono bw.size), hlo⟩

theorem fr_others {lo q : Nat} {A B : World} (h : Fr lo q A B) {o : Obj} (ho : A.heap[q]? = some o) (hc : o.isCells = true) : KeepsOthers A B :=
  ⟨h.size, fun j u hu hn => h.keep j u hu (fun e => by subst e; rw [ho] at hu; injection hu with hu; subst hu; rw [hc] at hn; cases hn) (.inr hn)⟩
theorem fr_bel {lo q B0 : Nat} {A B : World} (h : Fr lo q A B) (h1 : B0 ≤ lo) (h2 : B0 ≤ q) (h3 : B0 ≤ A.heap.size) : Below B0 A B :=
  ⟨h.os, h.tape, h.output, h.size, fun j hj => by
    have e : A.heap[j]? = some A.heap[j] := Array.getElem?_eq_getElem (by omega)
    rw [e]; exact h.keep j _ e (by omega) (.inl (by omega))⟩
theorem Ls.cells {lo q : Nat} {w : World} {r : Rd11} (h : Ls lo w q r) : ∃ o, w.heap[q]? = some o ∧ o.isCells = true := by
  obtain ⟨pu, pe, pd, A, c, S, h1, -⟩ := h
  exact ⟨_, h1, rfl⟩
/-- A round that goes on. -/
theorem round_ok {w w2 w3 w4 : World} {lo k : Nat} {ls : List (List UInt8)} {x : List UInt8} (I2 : Rdi w lo ls k w2) (hw3 : w3 = w2.setCell ⟨w.heap.size + 1 + 1 + 1 + 1, 0, none⟩ (.int .i64 ((k : Int) + 1))) (lo6 : w.heap.size + 5 + 3 = lo) (h3 : Ls lo w3 (w.heap.size + 1 + 1 + 1) (alR ls k))
    (hf : Fr lo (w.heap.size + 1 + 1 + 1) w3 w4) :
    KeepsOthers w2 w4 ∧ Keeps (fun j => j = w.heap.size + 1 + 1 + 1 ∨ j = w.heap.size + 1 + 1 + 1 + 1 ∨ lo ≤ j) w2 w4 ∧ Below w.heap.size w w4 ∧ lo ≤ w4.heap.size ∧
      w4.heap[w.heap.size + 1 + 1 + 1 + 1]? = some (.cells #[.int .i64 ((k : Int) + 1)] 3 (0, 0)) ∧ w4.heap[w.heap.size]? = some (.cells zl4 50 (0, 0)) ∧ w4.heap[w.heap.size + 1]? = some (.cells #[.int .i64 0] 3 (0, 0)) ∧ w4.heap[w.heap.size + 1 + 1]? = some (.cells #[.nilIface] 25 (0, 0)) := by
  have ho : ∀ j, j ≠ w.heap.size + 1 + 1 + 1 + 1 → w3.heap[j]? = w2.heap[j]? := fun j hj => by rw [hw3]; exact Below.heap_setCell w2 _ _ j (by simpa using hj)
  have hn : w3.heap[w.heap.size + 1 + 1 + 1 + 1]? = some (.cells #[.int .i64 ((k : Int) + 1)] 3 (0, 0)) := by rw [hw3]; exact bk_set I2.nb 0 _
  have hs3 : w3.heap.size = w2.heap.size := by rw [hw3]; simp [World.setCell]
  have hb3 : Below w.heap.size w2 w3 := by rw [hw3]; exact (Below.refl _ w2).setCell (p := ⟨w.heap.size + 1 + 1 + 1 + 1, 0, none⟩) (by show w.heap.size ≤ w.heap.size + 1 + 1 + 1 + 1; omega) _
  obtain ⟨o, ho1, ho2⟩ := h3.cells
  have hz := I2.sz
  refine ⟨?_, ?_, ?_, ?_, ?_, ?_, ?_, ?_⟩
  · have k1 : KeepsOthers w2 w3 := by rw [hw3]; exact KeepsOthers.setCell _ _ _
    exact k1.trans (fr_others hf ho1 ho2)
  · intro j u hj hu hc
    have hj2 : j ≠ w.heap.size + 1 + 1 + 1 ∧ j ≠ w.heap.size + 1 + 1 + 1 + 1 ∧ ¬ lo ≤ j := ⟨fun e => hj (.inl e), fun e => hj (.inr (.inl e)), fun e => hj (.inr (.inr e))⟩
    exact hf.keep j u ((ho j hj2.2.1).trans hu) hj2.1 (.inl (by omega))
  · exact (I2.bel.trans hb3).trans (fr_bel hf (by omega) (by omega) (by omega))
  · exact Nat.le_trans (by omega) hf.size
  · exact hf.keep _ _ hn (by omega) (.inl (by omega))
  · exact hf.keep _ _ ((ho _ (by omega)).trans I2.r0) (by omega) (.inl (by omega))
  · exact hf.keep _ _ ((ho _ (by omega)).trans I2.r1) (by omega) (.inl (by omega))
  · exact hf.keep _ _ ((ho _ (by omega)).trans I2.r2) (by omega) (.inl (by omega))

/-- A round that returns. -/
theorem round_bad {w w2 w4 : World} {lo k : Nat} {ls : List (List UInt8)} {E : Int} {v : Value} (a1 : KeepsOthers w2 w4) (a3 : Below w.heap.size w w4) (a4 : lo ≤ w4.heap.size)
    (a6 : w4.heap[w.heap.size]? = some (.cells zl4 50 (0, 0))) (a7 : w4.heap[w.heap.size + 1]? = some (.cells #[.int .i64 0] 3 (0, 0))) (a8 : w4.heap[w.heap.size + 1 + 1]? = some (.cells #[.nilIface] 25 (0, 0)))
    (hk : k < ls.length) (hg : alG ls k) (hE : E ≠ 0) (hE9 : on11 (alR ls k) (ls.getD k []) = E) (hv : ev E = v) :
    KeepsOthers w2 ((((((w4.setCell ⟨w.heap.size, 0, none⟩ (.pointer none)).setCell ⟨w.heap.size, 1, none⟩ (.pointer none)).setCell ⟨w.heap.size, 2, none⟩ (.slice none 0 0)).setCell ⟨w.heap.size, 3, none⟩ (.pointer none)).setCell ⟨w.heap.size + 1, 0, none⟩ (.int .i64 ((k : Int) + 1))).setCell ⟨w.heap.size + 1 + 1, 0, none⟩ v).drew ∧
    ∃ K, Rdx w lo ls ((((((w4.setCell ⟨w.heap.size, 0, none⟩ (.pointer none)).setCell ⟨w.heap.size, 1, none⟩ (.pointer none)).setCell ⟨w.heap.size, 2, none⟩ (.slice none 0 0)).setCell ⟨w.heap.size, 3, none⟩ (.pointer none)).setCell ⟨w.heap.size + 1, 0, none⟩ (.int .i64 ((k : Int) + 1))).setCell ⟨w.heap.size + 1 + 1, 0, none⟩ v).drew K := by
  subst hv
  have s1 := bk_set a6 0 (.pointer none)
  have s2 := bk_set s1 1 (.pointer none)
  have s3 := bk_set s2 2 (.slice none 0 0)
  have s4 := bk_set s3 3 (.pointer none)
  obtain ⟨W, hW⟩ : ∃ W, W = ((((w4.setCell ⟨w.heap.size, 0, none⟩ (.pointer none)).setCell ⟨w.heap.size, 1, none⟩ (.pointer none)).setCell ⟨w.heap.size, 2, none⟩ (.slice none 0 0)).setCell ⟨w.heap.size, 3, none⟩ (.pointer none)) := ⟨_, rfl⟩
  have b : Below w.heap.size w W := by
    rw [hW]
    exact ((((a3.setCell (p := ⟨w.heap.size, 0, none⟩) (Nat.le_refl _) _).setCell (p := ⟨w.heap.size, 1, none⟩) (Nat.le_refl _) _).setCell (p := ⟨w.heap.size, 2, none⟩) (Nat.le_refl _) _).setCell (p := ⟨w.heap.size, 3, none⟩) (Nat.le_refl _) _)
  have k0 : KeepsOthers w2 W := by
    rw [hW]
    exact (((a1.trans (KeepsOthers.setCell _ _ _)).trans (KeepsOthers.setCell _ _ _)).trans (KeepsOthers.setCell _ _ _)).trans (KeepsOthers.setCell _ _ _)
  have hs : W.heap.size = w4.heap.size := by rw [hW]; simp [World.setCell]
  have h0 : W.heap[w.heap.size]? = some (.cells zl4 50 (0, 0)) := by rw [hW]; exact s4
  have far : ∀ j, j ≠ w.heap.size → W.heap[j]? = w4.heap[j]? := fun j hj => by
    rw [hW]
    exact (Below.heap_setCell _ ⟨w.heap.size, 3, none⟩ _ j (by simpa using hj)).trans ((Below.heap_setCell _ ⟨w.heap.size, 2, none⟩ _ j (by simpa using hj)).trans ((Below.heap_setCell _ ⟨w.heap.size, 1, none⟩ _ j (by simpa using hj)).trans (Below.heap_setCell _ ⟨w.heap.size, 0, none⟩ _ j (by simpa using hj))))
  rw [← hW]
  clear hW s1 s2 s3 s4
  have h1 := bk_set ((far (w.heap.size + 1) (by omega)).trans a7) 0 (.int .i64 ((k : Int) + 1))
  have h2' : (W.setCell ⟨w.heap.size + 1, 0, none⟩ (.int .i64 ((k : Int) + 1))).heap[w.heap.size + 1 + 1]? = some (.cells #[.nilIface] 25 (0, 0)) :=
    (Below.heap_setCell W ⟨w.heap.size + 1, 0, none⟩ _ _ (by show w.heap.size + 1 + 1 ≠ w.heap.size + 1; omega)).trans ((far _ (by omega)).trans a8)
  have h2 := bk_set h2' 0 (ev E)
  refine ⟨((k0.trans (KeepsOthers.setCell _ _ _)).trans (KeepsOthers.setCell _ _ _)).trans (KeepsOthers.drew _), k, ?_, hk, hg, by rw [hE9]; exact hE, ?_, ?_, ?_, ?_⟩
  · show lo ≤ (World.setCell _ _ _).heap.size
    simp only [World.setCell, Array.size_modify]
    omega
  · exact (Below.heap_setCell _ ⟨w.heap.size + 1 + 1, 0, none⟩ _ _ (by show w.heap.size ≠ w.heap.size + 1 + 1; omega)).trans ((Below.heap_setCell W ⟨w.heap.size + 1, 0, none⟩ _ _ (by show w.heap.size ≠ w.heap.size + 1; omega)).trans h0)
  · exact (Below.heap_setCell _ ⟨w.heap.size + 1 + 1, 0, none⟩ _ _ (by show w.heap.size + 1 ≠ w.heap.size + 1 + 1; omega)).trans h1
  · rw [hE9]; exact h2
  · exact ((b.setCell (p := ⟨w.heap.size + 1, 0, none⟩) (Nat.le_succ _) _).setCell (p := ⟨w.heap.size + 1 + 1, 0, none⟩) (Nat.le_trans (Nat.le_succ _) (Nat.le_succ _)) _).drew

/-- The results of read, off its boxes. -/
theorem read_results {W : World} {b : Nat} {p0 p1 p2 p3 f v : Value} (h0 : W.heap[b]? = some (.cells #[p0, p1, p2, p3] 50 (0, 0))) (h1 : W.heap[b + 1]? = some (.cells #[f] 3 (0, 0))) (h2 : W.heap[b + 1 + 1]? = some (.cells #[v] 25 (0, 0)))
    (tmps : Array Value) (t2 : tmps.getD 2 undef = .pointer (some ⟨b, 0, none⟩)) (t3 : tmps.getD 3 undef = .pointer (some ⟨b + 1, 0, none⟩)) (t4 : tmps.getD 4 undef = .pointer (some ⟨b + 1 + 1, 0, none⟩)) :
    (results Tryz.f12 tmps).run Tryz.prog W = .ok (.tuple #[.agg #[p0, p1, p2, p3], f, v]) W := by
  have c0 := bk_cell h0 0
  have c1 := bk_cell h0 1
  have c2 := bk_cell h0 2
  have c3 := bk_cell h0 3
  have c4 := bk_cell h1 0
  have c5 := bk_cell h2 0
  have u2 : tmps[2]?.getD undef = .pointer (some ⟨b, 0, none⟩) := by simpa using t2
  have u3 : tmps[3]?.getD undef = .pointer (some ⟨b + 1, 0, none⟩) := by simpa using t3
  have u4 : tmps[4]?.getD undef = .pointer (some ⟨b + 1 + 1, 0, none⟩) := by simpa using t4
  simp [results, Tryz.results12, go_sem, u2, u3, u4, c0, c1, c2, c3, c4, c5]
theorem read_end {w W : World} {lo D n : Nat} {ls : List (List UInt8)} {pu pe v pd : Value} (hi : Rdi w lo ls n W) (lo6 : w.heap.size + 5 + 3 = lo) (hD : lo ≤ D) (hd : W.heap[D]? = some (.deferred (some [])))
    (hq : W.heap[w.heap.size + 1 + 1 + 1]? = some (.cells #[pu, pe, v, pd] 50 (0, 0))) :
    ((((((W.setCell ⟨w.heap.size, 0, none⟩ pu).setCell ⟨w.heap.size, 1, none⟩ pe).setCell ⟨w.heap.size, 2, none⟩ v).setCell ⟨w.heap.size, 3, none⟩ pd).setCell ⟨w.heap.size + 1, 0, none⟩ (.int .i64 0)).setCell ⟨w.heap.size + 1 + 1, 0, none⟩ .nilIface).heap[D]? = some (.deferred (some [])) ∧ ∀ W8, W8 = ((((((W.setCell ⟨w.heap.size, 0, none⟩ pu).setCell ⟨w.heap.size, 1, none⟩ pe).setCell ⟨w.heap.size, 2, none⟩ v).setCell ⟨w.heap.size, 3, none⟩ pd).setCell ⟨w.heap.size + 1, 0, none⟩ (.int .i64 0)).setCell ⟨w.heap.size + 1 + 1, 0, none⟩ .nilIface).putObj D (.deferred none) → W8.heap[w.heap.size]? = some (.cells #[pu, pe, v, pd] 50 (0, 0)) ∧ W8.heap[w.heap.size + 1]? = some (.cells #[.int .i64 0] 3 (0, 0)) ∧ W8.heap[w.heap.size + 1 + 1]? = some (.cells #[.nilIface] 25 (0, 0)) ∧ Below w.heap.size w W8 ∧ Lv W8 (alR ls n) #[pu, pe, v, pd] := by
  have s4 := bk_set (bk_set (bk_set (bk_set hi.r0 0 pu) 1 pe) 2 v) 3 pd
  obtain ⟨X, hX⟩ : ∃ X, X = (((W.setCell ⟨w.heap.size, 0, none⟩ pu).setCell ⟨w.heap.size, 1, none⟩ pe).setCell ⟨w.heap.size, 2, none⟩ v).setCell ⟨w.heap.size, 3, none⟩ pd := ⟨_, rfl⟩
  have gX : W.grownBy X (some w.heap.size) := by
    rw [hX]; exact gb_set (gb_set (gb_set (gb_set (gb_refl W _) 0 _) 1 _) 2 _) 3 _
  have bX : Below w.heap.size w X := by
    rw [hX]
    exact ((((hi.bel.setCell (p := ⟨w.heap.size, 0, none⟩) (Nat.le_refl _) _).setCell (p := ⟨w.heap.size, 1, none⟩) (Nat.le_refl _) _).setCell (p := ⟨w.heap.size, 2, none⟩) (Nat.le_refl _) _).setCell (p := ⟨w.heap.size, 3, none⟩) (Nat.le_refl _) _)
  have h0 : X.heap[w.heap.size]? = some (.cells #[pu, pe, v, pd] 50 (0, 0)) := by rw [hX]; exact s4
  rw [← hX]
  clear hX s4
  have lX : Ls lo X (w.heap.size + 1 + 1 + 1) (alR ls n) := hi.hls.far gX (by omega) (by omega)
  have oX : ∀ j o, j ≠ w.heap.size → W.heap[j]? = some o → X.heap[j]? = some o := fun j o hj ho => (gX.block j (Array.getElem?_eq_some_iff.1 ho).1 (by intro e; injection e with e; exact hj e)).trans ho
  obtain ⟨Y, hY⟩ : ∃ Y, Y = X.setCell ⟨w.heap.size + 1, 0, none⟩ (.int .i64 0) := ⟨_, rfl⟩
  have gY : X.grownBy Y (some (w.heap.size + 1)) := by rw [hY]; exact gb_set (gb_refl X _) 0 _
  have y1 : Y.heap[w.heap.size + 1]? = some (.cells #[.int .i64 0] 3 (0, 0)) := by rw [hY]; exact bk_set (oX _ _ (by omega) hi.r1) 0 _
  have bY : Below w.heap.size w Y := by rw [hY]; exact bX.setCell (p := ⟨w.heap.size + 1, 0, none⟩) (Nat.le_succ _) _
  rw [← hY]
  clear hY
  have oY : ∀ j o, j ≠ w.heap.size + 1 → X.heap[j]? = some o → Y.heap[j]? = some o := fun j o hj ho => (gY.block j (Array.getElem?_eq_some_iff.1 ho).1 (by intro e; injection e with e; exact hj e)).trans ho
  have lY : Ls lo Y (w.heap.size + 1 + 1 + 1) (alR ls n) := lX.far gY (by omega) (by omega)
  obtain ⟨Z, hZ⟩ : ∃ Z, Z = Y.setCell ⟨w.heap.size + 1 + 1, 0, none⟩ .nilIface := ⟨_, rfl⟩
  have gZ : Y.grownBy Z (some (w.heap.size + 1 + 1)) := by rw [hZ]; exact gb_set (gb_refl Y _) 0 _
  have z2 : Z.heap[w.heap.size + 1 + 1]? = some (.cells #[.nilIface] 25 (0, 0)) := by rw [hZ]; exact bk_set (oY _ _ (by omega) (oX _ _ (by omega) hi.r2)) 0 _
  have bZ : Below w.heap.size w Z := by rw [hZ]; exact bY.setCell (p := ⟨w.heap.size + 1 + 1, 0, none⟩) (Nat.le_trans (Nat.le_succ _) (Nat.le_succ _)) _
  rw [← hZ]
  clear hZ
  have oZ : ∀ j o, j ≠ w.heap.size + 1 + 1 → Y.heap[j]? = some o → Z.heap[j]? = some o := fun j o hj ho => (gZ.block j (Array.getElem?_eq_some_iff.1 ho).1 (by intro e; injection e with e; exact hj e)).trans ho
  have lZ : Ls lo Z (w.heap.size + 1 + 1 + 1) (alR ls n) := lY.far gZ (by omega) (by omega)
  have hdZ : Z.heap[D]? = some (.deferred (some [])) := oZ _ _ (by omega) (oY _ _ (by omega) (oX _ _ (by omega) hd))
  refine ⟨hdZ, fun W8 h8 => ?_⟩
  have k8 : Book lo Z W8 := by rw [h8]; exact Book.put _ hD hdZ rfl
  have l8 := lZ.book k8
  have q8 : W8.heap[w.heap.size + 1 + 1 + 1]? = some (.cells #[pu, pe, v, pd] 50 (0, 0)) := k8.keep _ _ (oZ _ _ (by omega) (oY _ _ (by omega) (oX _ _ (by omega) hq))) (.inr rfl)
  obtain ⟨cs, hq8, lv8⟩ := l8.lv
  rw [q8] at hq8
  injection hq8 with hq8
  injection hq8 with hq8 _ _
  rw [← hq8] at lv8
  have sz : lo ≤ Z.heap.size := Nat.le_trans hi.sz (Nat.le_trans gX.size (Nat.le_trans gY.size gZ.size))
  exact ⟨k8.keep _ _ (oZ _ _ (by omega) (oY _ _ (by omega) h0)) (.inr rfl), k8.keep _ _ (oZ _ _ (by omega) y1) (.inr rfl), k8.keep _ _ z2 (.inr rfl), bZ.trans ((k8.bel sz).mono (by omega)), lv8⟩

set_option maxRecDepth 100000 in
set_option maxHeartbeats 8000000 in
theorem lread_any (t : ByteArray) (w : World) (he : Eps w) (hg : GE w) (ht : t.size ≤ 65535) : Calls Tryz.prog 12 #[.string t] w (ReP (spR 10 t.data.toList) w) := by
  have hz : ¬ (t.size : Int) > 65535 := by omega
  obtain ⟨W5, hW5, s5, b5, r5⟩ := five_boxes w (spR 10 t.data.toList)
  obtain ⟨Bs, hBs⟩ : ∃ Bs, Bs = W5.heap.size := ⟨_, rfl⟩
  have hsp := splitseq_any t 10 W5
  rw [← hBs] at hsp s5 r5
  obtain ⟨ls, hls⟩ : ∃ ls, ls = spR 10 t.data.toList := ⟨_, rfl⟩
  have hlen := spR_len 10 t.data.toList
  have hst := fun (w6 : World) (own : Nat → Prop) hb o0 o1 o2 => split_stops 2 (by omega) own Bs 10 t (by omega) w6 hb o0 o1 o2
  rw [← hls] at r5 hlen hst ⊢
  have htl : t.data.toList.length = t.size := by simp
  have HLEN : Hid (ls.length ≤ 65536 ∧ ∀ x ∈ ls, x.length ≤ 65535) := Lib.hid ⟨by omega, fun x hx => by have := hlen.2 x hx; omega⟩
  have HSP := Lib.hid hsp; have R5 := Lib.hid r5; have HST := Lib.hid hst; have B5 := Lib.hid b5; have HB := Lib.hid (And.intro hBs s5)
  have HE := Lib.hid he; have HG := Lib.hid hg
  clear hsp r5 hst hls hlen htl he hg hBs s5 b5 ht
  refine (callsIn_wide (n := 3)).1 ?_
  refine callsIn_of_wp_marks Tryz.func12 rfl trivial ?_ rfl
  simp only [Tryz.ntmps12, List.size_toArray, List.length_cons, List.length_nil, Nat.reduceAdd, Nat.reduceSub, Array.replicate_succ, Array.replicate_zero, List.push_toArray, List.append_toArray, List.nil_append, List.cons_append]
  gi_wp2
  rw [← hW5]
  refine ⟨trivial, ?_⟩
  refine (callsIn_wide.2 HSP.out).mono ?_
  rintro x w6 ⟨rfl, hsb, hb6, hs6⟩
  have R6 := Lib.hid (R5.out w6.heap.size w6 (by rw [HB.out.1] at hb6 ⊢; exact hb6) (Nat.le_refl _))
  have SB6 := Lib.hid hsb; have S6 := Lib.hid hs6
  have B6 := Lib.hid (B5.out.trans (hb6.mono (by have := HB.out.2; omega)))
  clear hsb hb6 hs6 hW5
  gi_wp2
  have hgv := HST.out w6 (fun j => j = w.heap.size + 1 + 1 + 1 ∨ j = w.heap.size + 1 + 1 + 1 + 1 ∨ w6.heap.size ≤ j) SB6.out (by have := HB.out.2; have := S6.out; omega) (by have := HB.out.2; have := S6.out; omega) (by have := HB.out.2; have := S6.out; omega)
  clear HST
  refine range_stops rfl (by omega) (gf := 59) (lb := #[.pointer (some ⟨Bs + 1, 0, none⟩), .pointer (some ⟨Bs, 0, none⟩), .pointer (some ⟨Bs + 2, 0, none⟩)]) rfl trivial (enters_of Tryz.func59 (by kernel_rfl) rfl)
    hgv (Below.refl _ _) (by have := S6.out; omega) (fun _ => rfl)
    (fun k W => Rdi w w6.heap.size ls k W) (fun W => ∃ K, Rdx w w6.heap.size ls W K)
    (fun k X Y h hb => h.book hb B6.out.size h.sz) (fun X Y ⟨K, h⟩ hb => ⟨K, h.book hb B6.out.size h.sz⟩)
    (fun k X i v h => h.box (by have := S6.out; omega) (by have := HB.out.2; omega)) R6.out ?round ?done ?stop
  case round =>
    rintro l k x W hi hx hl ⟨o9, ho9, hc9⟩
    have hk : k < ls.length := (List.getElem?_eq_some_iff.1 hx).1
    have hxg : ls.getD k [] = x := by rw [List.getD, hx]; rfl
    have hxm : x ∈ ls := List.mem_of_getElem? hx
    have HI := Lib.hid hi; have HX := Lib.hid (And.intro hk (And.intro hxg hxm)); have HL := Lib.hid (And.intro hl (And.intro ho9 hc9))
    clear hi hk hxg hxm hl ho9 hc9 hx hgv
    gi_wp2
    refine ⟨KeepsOthers.refl _, Keeps.refl _ _, HI.out, fun w2 ho hsz hbk => ?_⟩
    have I2 := Lib.hid (HI.out.book hbk B6.out.size HI.out.sz)
    clear ho hsz hbk
    have c4 : w2.cell? ⟨w.heap.size + 1 + 1 + 1 + 1, 0, none⟩ = some (.int .i64 (k : Int)) := bk_cell I2.out.nb 0
    have f4 : w2.frozen? ⟨w.heap.size + 1 + 1 + 1 + 1, 0, none⟩ = false := bk_free I2.out.nb 0
    have hk2 : (k : Int) ≤ 65536 := by have := HX.out.1; have := HLEN.out.1; omega
    have hk0 : (0 : Int) ≤ (k : Int) := by omega
    obtain ⟨w3, hw3⟩ : ∃ w3, w3 = w2.setCell ⟨w.heap.size + 1 + 1 + 1 + 1, 0, none⟩ (.int .i64 ((k : Int) + 1)) := ⟨_, rfl⟩
    have gb3 : w2.grownBy w3 (some (w.heap.size + 1 + 1 + 1 + 1)) := by rw [hw3]; exact gb_set (gb_refl _ _) 0 _
    have lo6 : w.heap.size + 5 + 3 = w6.heap.size := by have := HB.out.2; have := S6.out; omega
    have n3 : w3.heap[w.heap.size + 1 + 1 + 1 + 1]? = some (.cells #[.int .i64 ((k : Int) + 1)] 3 (0, 0)) := by rw [hw3]; exact bk_set I2.out.nb 0 _
    have l3 : Ls w6.heap.size w3 (w.heap.size + 1 + 1 + 1) (alR ls k) := I2.out.hls.far gb3 (by omega) (by omega)
    have bd := al_bd ls k
    have ad : Ad w6.heap.size (w.heap.size + 1 + 1 + 1) (alR ls k) ⟨x.toArray⟩ w3 := {
      ls := l3
      ql := by omega
      ll := Nat.le_trans I2.out.sz gb3.size
      l8 := by have := (ge_lt HG.out).2; omega
      eps := (HE.out.below I2.out.bel).kept gb3 (by have := HE.out.lt; intro e; injection e with e; omega)
      ge := (HG.out.below I2.out.bel).kept gb3 (by have := (ge_lt HG.out).1; omega) (by have := (ge_lt HG.out).2; omega)
      few := by have := HX.out.1; have := HLEN.out.1; omega
      sz := by have := HLEN.out.2 x HX.out.2.2; simp [ByteArray.size]; omega
      m0 := bd.2.1
      h0 := bd.2.2.2.1
      s0 := bd.2.2.2.2.2 }
    have hadd := ladd_any _ _ _ _ _ ad
    rw [show (⟨x.toArray⟩ : ByteArray).data.toList = x by simp] at hadd
    have nx : nx11 (alR ls k) x = alR ls (k + 1) := by rw [alR, HX.out.2.1]
    have HW3 := Lib.hid hw3; have N3 := Lib.hid n3; have G3 := Lib.hid gb3; have L6 := Lib.hid lo6; have NX := Lib.hid nx; have L3 := Lib.hid l3
    have HD := Lib.hid hadd
    clear hw3 n3 gb3 lo6 nx l3 ad bd hadd
    by_cases hE : on11 (alR ls k) x = 0
    · have HA : Hid (Calls Tryz.prog 25 #[.pointer (some ⟨w.heap.size + 1 + 1 + 1, 0, none⟩), .string ⟨x.toArray⟩] (w2.setCell ⟨w.heap.size + 1 + 1 + 1 + 1, 0, none⟩ (.int .i64 ((k : Int) + 1))) fun y w' => y = .returned .nilIface ∧ Ls w6.heap.size w' (w.heap.size + 1 + 1 + 1) (alR ls (k + 1)) ∧ Fr w6.heap.size (w.heap.size + 1 + 1 + 1) w3 w') := Lib.hid (by
        rw [← HW3.out]
        refine HD.out.mono ?_
        rintro y w' ⟨h1, h2, h3⟩
        exact ⟨by rw [h1, hE]; rfl, by rw [← NX.out]; exact h2 hE, h3⟩)
      have HEz := Lib.hid hE
      clear hE HD
      gi_wp2_with (refine ⟨trivial, ?_⟩; gi_at_call 25; refine (CallsIn.inRound l (callsIn_wide.2 HA.out)).mono ?_; rintro e w4 ⟨rfl, hl4, hf4⟩; have L4 := Lib.hid hl4; have F4 := Lib.hid hf4; clear hl4 hf4)
      obtain ⟨a1, a2, a3, a4, a5, a6, a7, a8⟩ := round_ok (x := x) I2.out HW3.out L6.out L3.out F4.out
      refine ⟨a1, a2, ⟨L4.out, by rw [a5]; simp, a6, a7, a8, fun j hj => ?_, a3, a4⟩⟩
      by_cases e : j = k
      · subst e; rw [HX.out.2.1]; exact HEz.out
      · exact I2.out.good j (by omega)
    · have HA : Hid (Calls Tryz.prog 25 #[.pointer (some ⟨w.heap.size + 1 + 1 + 1, 0, none⟩), .string ⟨x.toArray⟩] (w2.setCell ⟨w.heap.size + 1 + 1 + 1 + 1, 0, none⟩ (.int .i64 ((k : Int) + 1))) fun y w' => y = .returned (.iface 56 (.int .i64 (on11 (alR ls k) x))) ∧ Fr w6.heap.size (w.heap.size + 1 + 1 + 1) w3 w') := Lib.hid (by
        rw [← HW3.out]
        refine HD.out.mono ?_
        rintro y w' ⟨h1, h2, h3⟩
        exact ⟨by rw [h1, ev_iface hE], h3⟩)
      have HEz := Lib.hid hE
      have HEV : Hid (ev (on11 (alR ls k) x) = .iface 56 (.int .i64 (on11 (alR ls k) x))) := Lib.hid (ev_iface hE)
      clear hE HD
      generalize hE9 : on11 (alR ls k) x = E at *
      have HE9 := Lib.hid hE9
      clear hE9
      gi_wp2_with (refine ⟨trivial, ?_⟩; gi_at_call 25; refine (CallsIn.inRound l (callsIn_wide.2 HA.out)).mono ?_; rintro e w4 ⟨rfl, hf4⟩; have F4 := Lib.hid hf4; obtain ⟨a1, a2, a3, a4, a5, a6, a7, a8⟩ := round_ok (x := x) I2.out HW3.out L6.out L3.out F4.out; have A1 := Lib.hid a1; have A3 := Lib.hid a3; have A4 := Lib.hid a4; have A6 := Lib.hid a6; have A7 := Lib.hid a7; have A8 := Lib.hid a8; have d0 : w4.cell? ⟨w.heap.size + 1 + 1 + 1 + 1, 0, none⟩ = some (.int .i64 ((k : Int) + 1)) := bk_cell a5 0; have e0 : w4.cell? ⟨w.heap.size, 0, none⟩ = some (.pointer none) := bk_cell a6 0; have e1 : w4.cell? ⟨w.heap.size, 1, none⟩ = some (.pointer none) := bk_cell a6 1; have e2 : w4.cell? ⟨w.heap.size, 2, none⟩ = some (.slice none 0 0) := bk_cell a6 2; have e3 : w4.cell? ⟨w.heap.size, 3, none⟩ = some (.pointer none) := bk_cell a6 3; have e4 : w4.cell? ⟨w.heap.size + 1, 0, none⟩ = some (.int .i64 0) := bk_cell a7 0; have e5 : w4.cell? ⟨w.heap.size + 1 + 1, 0, none⟩ = some .nilIface := bk_cell a8 0; have g0 := bk_free a6 0; have g1 := bk_free a6 1; have g2 := bk_free a6 2; have g3 := bk_free a6 3; have g4 := bk_free a7 0; have g5 := bk_free a8 0; clear hf4 a1 a2 a3 a4 a5 a6 a7 a8)
      have k0 : w4.drew.cell? ⟨w.heap.size + 1 + 1 + 1 + 1, 0, none⟩ = some (.int .i64 ((k : Int) + 1)) := d0
      have k1 : w4.drew.cell? ⟨w.heap.size, 0, none⟩ = some (.pointer none) := e0
      have k2 : w4.drew.cell? ⟨w.heap.size, 1, none⟩ = some (.pointer none) := e1
      have k3 : w4.drew.cell? ⟨w.heap.size, 2, none⟩ = some (.slice none 0 0) := e2
      have k4 : w4.drew.cell? ⟨w.heap.size, 3, none⟩ = some (.pointer none) := e3
      have k5 : w4.drew.cell? ⟨w.heap.size + 1, 0, none⟩ = some (.int .i64 0) := e4
      have k6 : w4.drew.cell? ⟨w.heap.size + 1 + 1, 0, none⟩ = some .nilIface := e5
      have m1 : w4.drew.frozen? ⟨w.heap.size, 0, none⟩ = false := g0
      have m2 : w4.drew.frozen? ⟨w.heap.size, 1, none⟩ = false := g1
      have m3 : w4.drew.frozen? ⟨w.heap.size, 2, none⟩ = false := g2
      have m4 : w4.drew.frozen? ⟨w.heap.size, 3, none⟩ = false := g3
      have m5 : w4.drew.frozen? ⟨w.heap.size + 1, 0, none⟩ = false := g4
      have m6 : w4.drew.frozen? ⟨w.heap.size + 1 + 1, 0, none⟩ = false := g5
      gi_region
      all_goals gi_wp2
      all_goals exact round_bad A1.out A3.out A4.out A6.out A7.out A8.out HX.out.1 I2.out.good HEz.out (by rw [HX.out.2.1]; exact HE9.out) HEV.out
  case done =>
    rintro D W hD hi hd
    obtain ⟨cs, hq, hlv⟩ := hi.hls.lv
    have HD := Lib.hid (And.intro hD hd)
    have HI := Lib.hid hi
    obtain ⟨pu, pe, pd, A, c, S, rfl, l2, l3, l4, l5, l6⟩ := hlv
    have LV : Hid (Lv W (alR ls ls.length) #[.pointer pu, .pointer pe, .slice A (alR ls ls.length).L.length c, .pointer pd]) := Lib.hid ⟨pu, pe, pd, A, c, S, rfl, l2, l3, l4, l5, l6⟩
    have q0 : W.cell? ⟨w.heap.size + 1 + 1 + 1, 0, none⟩ = some (.pointer pu) := bk_cell hq 0
    have q1 : W.cell? ⟨w.heap.size + 1 + 1 + 1, 1, none⟩ = some (.pointer pe) := bk_cell hq 1
    have q2 : W.cell? ⟨w.heap.size + 1 + 1 + 1, 2, none⟩ = some (.slice A (alR ls ls.length).L.length c) := bk_cell hq 2
    have q3 : W.cell? ⟨w.heap.size + 1 + 1 + 1, 3, none⟩ = some (.pointer pd) := bk_cell hq 3
    have e0 : W.cell? ⟨w.heap.size, 0, none⟩ = some (.pointer none) := bk_cell hi.r0 0
    have e1 : W.cell? ⟨w.heap.size, 1, none⟩ = some (.pointer none) := bk_cell hi.r0 1
    have e2 : W.cell? ⟨w.heap.size, 2, none⟩ = some (.slice none 0 0) := bk_cell hi.r0 2
    have e3 : W.cell? ⟨w.heap.size, 3, none⟩ = some (.pointer none) := bk_cell hi.r0 3
    have e4 : W.cell? ⟨w.heap.size + 1, 0, none⟩ = some (.int .i64 0) := bk_cell hi.r1 0
    have e5 : W.cell? ⟨w.heap.size + 1 + 1, 0, none⟩ = some .nilIface := bk_cell hi.r2 0
    have g0 := bk_free hi.r0 0
    have g1 := bk_free hi.r0 1
    have g2 := bk_free hi.r0 2
    have g3 := bk_free hi.r0 3
    have g4 := bk_free hi.r1 0
    have g5 := bk_free hi.r2 0
    have HQ := Lib.hid hq
    have L6 : Hid (w.heap.size + 5 + 3 = w6.heap.size) := Lib.hid (by have := HB.out.2; have := S6.out; omega)
    clear hi hq l2 l3 l4 l5 l6 hD hd hgv
    gi_wp2
    obtain ⟨hd9, h9⟩ := read_end HI.out L6.out HD.out.1 HD.out.2 HQ.out
    refine ⟨by simp, .inl ⟨_, _, rfl, run_takeDeferred hd9, ?_⟩⟩
    obtain ⟨r0, r1, r2, bb, lv⟩ := h9 _ rfl
    exact ⟨_, read_results r0 r1 r2 _ rfl rfl rfl, .inl ⟨_, rfl, HI.out.good, lv⟩, bb⟩
  case stop =>
    rintro D W hD ⟨K, hi⟩ hd
    have L6 : Hid (w.heap.size + 5 + 3 = w6.heap.size) := Lib.hid (by have := HB.out.2; have := S6.out; omega)
    have hbk : Book w6.heap.size W (W.putObj D (.deferred none)) := Book.put _ hD hd rfl
    have h8 := hi.book hbk B6.out.size hi.sz
    have H8 := Lib.hid h8; have HD := Lib.hid hd
    clear hi hd hbk h8 hD hgv
    gi_wp2
    refine ⟨by simp, .inl ⟨_, _, rfl, run_takeDeferred HD.out, ?_⟩⟩
    exact ⟨_, read_results H8.out.r0 H8.out.r1 H8.out.r2 _ rfl rfl rfl, .inr ⟨K, H8.out.lt, H8.out.good, H8.out.bad, rfl⟩, H8.out.bel⟩

end Go.Proofs.YtdonicaiimeleaaGreatDoor
