/- Merged: ListE, ListF, ListJ, ListU, ShaM. -/
import Derived.Test.YtiamggjebaabkaaGreatDoorGListPuts11
import Derived.Test.YtiamggjebaabkaaGreatDoorGListPuts10
import Derived.Test.YtiamggjebaabkaaGreatDoorGListPuts1
import Derived.Laws.Entries
namespace Go.Proofs.YtiamggjebaabkaaGreatDoor
open Go.RowKit Go.WideShapes Go.ChangeShapes
set_option linter.unusedVariables false
set_option linter.unusedSimpArgs false

/-- A Read's block. -/
def B13 (w : World) (g : Nat) (cs : Array Value) : Prop := w.heap[g]? = some (.cells cs 38 (0, 0))
theorem B13.keep {w w' : World} {g : Nat} {cs : Array Value} (h : B13 w g cs) (hb : Below w.heap.size w w') : B13 w' g cs := (hb.block g (bk_lt h)).trans h
theorem B13.all {w : World} {g : Nat} {b0 b1 b2 b3 b4 b5 b6 b7 b8 b9 b10 b11 b12 : Value} (h : B13 w g #[b0, b1, b2, b3, b4, b5, b6, b7, b8, b9, b10, b11, b12]) :
    w.cell? ⟨g, 0, none⟩ = some b0 ∧ w.cell? ⟨g, 1, none⟩ = some b1 ∧ w.cell? ⟨g, 2, none⟩ = some b2 ∧ w.cell? ⟨g, 3, none⟩ = some b3 ∧ w.cell? ⟨g, 4, none⟩ = some b4 ∧ w.cell? ⟨g, 5, none⟩ = some b5 ∧ w.cell? ⟨g, 6, none⟩ = some b6 ∧ w.cell? ⟨g, 7, none⟩ = some b7 ∧ w.cell? ⟨g, 8, none⟩ = some b8 ∧ w.cell? ⟨g, 9, none⟩ = some b9 ∧ w.cell? ⟨g, 10, none⟩ = some b10 ∧ w.cell? ⟨g, 11, none⟩ = some b11 ∧ w.cell? ⟨g, 12, none⟩ = some b12 :=
  ⟨bk_cell h 0, bk_cell h 1, bk_cell h 2, bk_cell h 3, bk_cell h 4, bk_cell h 5, bk_cell h 6, bk_cell h 7, bk_cell h 8, bk_cell h 9, bk_cell h 10, bk_cell h 11, bk_cell h 12⟩
theorem B13.frees {w : World} {g : Nat} {cs : Array Value} (h : B13 w g cs) : w.frozen? ⟨g, 0, none⟩ = false ∧ w.frozen? ⟨g, 1, none⟩ = false ∧ w.frozen? ⟨g, 2, none⟩ = false ∧ w.frozen? ⟨g, 3, none⟩ = false ∧ w.frozen? ⟨g, 4, none⟩ = false ∧ w.frozen? ⟨g, 5, none⟩ = false ∧ w.frozen? ⟨g, 6, none⟩ = false ∧ w.frozen? ⟨g, 7, none⟩ = false ∧ w.frozen? ⟨g, 8, none⟩ = false ∧ w.frozen? ⟨g, 9, none⟩ = false ∧ w.frozen? ⟨g, 10, none⟩ = false ∧ w.frozen? ⟨g, 11, none⟩ = false ∧ w.frozen? ⟨g, 12, none⟩ = false :=
  ⟨bk_free h 0, bk_free h 1, bk_free h 2, bk_free h 3, bk_free h 4, bk_free h 5, bk_free h 6, bk_free h 7, bk_free h 8, bk_free h 9, bk_free h 10, bk_free h 11, bk_free h 12⟩
abbrev put13 (W : World) (q : Nat) (a0 a1 a2 a3 a4 a5 a6 a7 a8 a9 a10 a11 a12 : Value) : World := (((((((((((((W.setCell ⟨q, 0, none⟩ a0).setCell ⟨q, 1, none⟩ a1).setCell ⟨q, 2, none⟩ a2).setCell ⟨q, 3, none⟩ a3).setCell ⟨q, 4, none⟩ a4).setCell ⟨q, 5, none⟩ a5).setCell ⟨q, 6, none⟩ a6).setCell ⟨q, 7, none⟩ a7).setCell ⟨q, 8, none⟩ a8).setCell ⟨q, 9, none⟩ a9).setCell ⟨q, 10, none⟩ a10).setCell ⟨q, 11, none⟩ a11).setCell ⟨q, 12, none⟩ a12)
theorem B13.put {W : World} {q : Nat} {b0 b1 b2 b3 b4 b5 b6 b7 b8 b9 b10 b11 b12 : Value} (h : B13 W q #[b0, b1, b2, b3, b4, b5, b6, b7, b8, b9, b10, b11, b12]) (a0 a1 a2 a3 a4 a5 a6 a7 a8 a9 a10 a11 a12 : Value) : B13 (put13 W q a0 a1 a2 a3 a4 a5 a6 a7 a8 a9 a10 a11 a12) q #[a0, a1, a2, a3, a4, a5, a6, a7, a8, a9, a10, a11, a12] := by
  have h0 := h
  have h1 : B13 (W.setCell ⟨q, 0, none⟩ a0) q #[a0, b1, b2, b3, b4, b5, b6, b7, b8, b9, b10, b11, b12] := bk_set h0 0 a0
  have h2 : B13 ((W.setCell ⟨q, 0, none⟩ a0).setCell ⟨q, 1, none⟩ a1) q #[a0, a1, b2, b3, b4, b5, b6, b7, b8, b9, b10, b11, b12] := bk_set h1 1 a1
  have h3 : B13 (((W.setCell ⟨q, 0, none⟩ a0).setCell ⟨q, 1, none⟩ a1).setCell ⟨q, 2, none⟩ a2) q #[a0, a1, a2, b3, b4, b5, b6, b7, b8, b9, b10, b11, b12] := bk_set h2 2 a2
  have h4 : B13 ((((W.setCell ⟨q, 0, none⟩ a0).setCell ⟨q, 1, none⟩ a1).setCell ⟨q, 2, none⟩ a2).setCell ⟨q, 3, none⟩ a3) q #[a0, a1, a2, a3, b4, b5, b6, b7, b8, b9, b10, b11, b12] := bk_set h3 3 a3
  have h5 : B13 (((((W.setCell ⟨q, 0, none⟩ a0).setCell ⟨q, 1, none⟩ a1).setCell ⟨q, 2, none⟩ a2).setCell ⟨q, 3, none⟩ a3).setCell ⟨q, 4, none⟩ a4) q #[a0, a1, a2, a3, a4, b5, b6, b7, b8, b9, b10, b11, b12] := bk_set h4 4 a4
  have h6 : B13 ((((((W.setCell ⟨q, 0, none⟩ a0).setCell ⟨q, 1, none⟩ a1).setCell ⟨q, 2, none⟩ a2).setCell ⟨q, 3, none⟩ a3).setCell ⟨q, 4, none⟩ a4).setCell ⟨q, 5, none⟩ a5) q #[a0, a1, a2, a3, a4, a5, b6, b7, b8, b9, b10, b11, b12] := bk_set h5 5 a5
  have h7 : B13 (((((((W.setCell ⟨q, 0, none⟩ a0).setCell ⟨q, 1, none⟩ a1).setCell ⟨q, 2, none⟩ a2).setCell ⟨q, 3, none⟩ a3).setCell ⟨q, 4, none⟩ a4).setCell ⟨q, 5, none⟩ a5).setCell ⟨q, 6, none⟩ a6) q #[a0, a1, a2, a3, a4, a5, a6, b7, b8, b9, b10, b11, b12] := bk_set h6 6 a6
  have h8 : B13 ((((((((W.setCell ⟨q, 0, none⟩ a0).setCell ⟨q, 1, none⟩ a1).setCell ⟨q, 2, none⟩ a2).setCell ⟨q, 3, none⟩ a3).setCell ⟨q, 4, none⟩ a4).setCell ⟨q, 5, none⟩ a5).setCell ⟨q, 6, none⟩ a6).setCell ⟨q, 7, none⟩ a7) q #[a0, a1, a2, a3, a4, a5, a6, a7, b8, b9, b10, b11, b12] := bk_set h7 7 a7
  have h9 : B13 (((((((((W.setCell ⟨q, 0, none⟩ a0).setCell ⟨q, 1, none⟩ a1).setCell ⟨q, 2, none⟩ a2).setCell ⟨q, 3, none⟩ a3).setCell ⟨q, 4, none⟩ a4).setCell ⟨q, 5, none⟩ a5).setCell ⟨q, 6, none⟩ a6).setCell ⟨q, 7, none⟩ a7).setCell ⟨q, 8, none⟩ a8) q #[a0, a1, a2, a3, a4, a5, a6, a7, a8, b9, b10, b11, b12] := bk_set h8 8 a8
  have h10 : B13 ((((((((((W.setCell ⟨q, 0, none⟩ a0).setCell ⟨q, 1, none⟩ a1).setCell ⟨q, 2, none⟩ a2).setCell ⟨q, 3, none⟩ a3).setCell ⟨q, 4, none⟩ a4).setCell ⟨q, 5, none⟩ a5).setCell ⟨q, 6, none⟩ a6).setCell ⟨q, 7, none⟩ a7).setCell ⟨q, 8, none⟩ a8).setCell ⟨q, 9, none⟩ a9) q #[a0, a1, a2, a3, a4, a5, a6, a7, a8, a9, b10, b11, b12] := bk_set h9 9 a9
  have h11 : B13 (((((((((((W.setCell ⟨q, 0, none⟩ a0).setCell ⟨q, 1, none⟩ a1).setCell ⟨q, 2, none⟩ a2).setCell ⟨q, 3, none⟩ a3).setCell ⟨q, 4, none⟩ a4).setCell ⟨q, 5, none⟩ a5).setCell ⟨q, 6, none⟩ a6).setCell ⟨q, 7, none⟩ a7).setCell ⟨q, 8, none⟩ a8).setCell ⟨q, 9, none⟩ a9).setCell ⟨q, 10, none⟩ a10) q #[a0, a1, a2, a3, a4, a5, a6, a7, a8, a9, a10, b11, b12] := bk_set h10 10 a10
  have h12 : B13 ((((((((((((W.setCell ⟨q, 0, none⟩ a0).setCell ⟨q, 1, none⟩ a1).setCell ⟨q, 2, none⟩ a2).setCell ⟨q, 3, none⟩ a3).setCell ⟨q, 4, none⟩ a4).setCell ⟨q, 5, none⟩ a5).setCell ⟨q, 6, none⟩ a6).setCell ⟨q, 7, none⟩ a7).setCell ⟨q, 8, none⟩ a8).setCell ⟨q, 9, none⟩ a9).setCell ⟨q, 10, none⟩ a10).setCell ⟨q, 11, none⟩ a11) q #[a0, a1, a2, a3, a4, a5, a6, a7, a8, a9, a10, a11, b12] := bk_set h11 11 a11
  have h13 : B13 (((((((((((((W.setCell ⟨q, 0, none⟩ a0).setCell ⟨q, 1, none⟩ a1).setCell ⟨q, 2, none⟩ a2).setCell ⟨q, 3, none⟩ a3).setCell ⟨q, 4, none⟩ a4).setCell ⟨q, 5, none⟩ a5).setCell ⟨q, 6, none⟩ a6).setCell ⟨q, 7, none⟩ a7).setCell ⟨q, 8, none⟩ a8).setCell ⟨q, 9, none⟩ a9).setCell ⟨q, 10, none⟩ a10).setCell ⟨q, 11, none⟩ a11).setCell ⟨q, 12, none⟩ a12) q #[a0, a1, a2, a3, a4, a5, a6, a7, a8, a9, a10, a11, a12] := bk_set h12 12 a12
  exact h13
end Go.Proofs.YtiamggjebaabkaaGreatDoor

namespace Go.Proofs.YtiamggjebaabkaaGreatDoor
open Go.RowKit Go.WideShapes Go.ChangeShapes
set_option linter.unusedVariables false
set_option linter.unusedSimpArgs false

theorem B13.far {w : World} {g k i : Nat} {cs : Array Value} {v : Value} (h : B13 w g cs) (hk : k ≠ g) : B13 (w.setCell ⟨k, i, none⟩ v) g cs := by
  unfold B13 at *
  simp [World.setCell, Array.getElem?_modify, hk, h]
/-- What a time's line answers: its time's error, or that there was one already. -/
def twE (b m : Int) : Int := if b = 0 then (if m + 1 > 1 then 2 else 0) else b

end Go.Proofs.YtiamggjebaabkaaGreatDoor

namespace Go.Proofs.YtiamggjebaabkaaGreatDoor
open Go.RowKit Go.WideShapes Go.ChangeShapes
set_option linter.unusedVariables false
set_option linter.unusedSimpArgs false

theorem Os.five {w : World} {base : Nat} {v : Value} {ls : List (List UInt8)} (h : Os w base v ls) (h5 : ls.length = 5) : ∃ g c, v = .slice (some ⟨g, 0, none⟩) 5 c := by
  rcases h.2 with ⟨hv, hn⟩ | ⟨g, cap, cur, hv, -⟩
  · omega
  · exact ⟨g, cap, by rw [hv, h5]⟩
theorem Os.cell {w : World} {base g n c : Nat} {ls : List (List UInt8)} (h : Os w base (.slice (some ⟨g, 0, none⟩) n c) ls) {j : Nat} {l : List UInt8} (hj : ls[j]? = some l) : w.cell? ⟨g, j, none⟩ = some (sv l) := by
  obtain ⟨A, c', e, hr, -⟩ := h.reads
  injection e with e1 e2 e3
  subst e1
  rcases hr with h0 | ⟨b, off, h1, h2, h3⟩
  · rw [h0] at hj; simp at hj
  · injection h1 with h1
    injection h1 with h1 h4
    subst h1; subst h4
    simpa using h3 j l hj
/-- A digest's line: its error, and its words' numbers. -/
def suE (ls : List (List UInt8)) : Int := if ls.all hxB = true then 0 else 2
def suN (ls : List (List UInt8)) (i : Nat) : Nat := ((ls[i]?).map hxN).getD 0
end Go.Proofs.YtiamggjebaabkaaGreatDoor

namespace Go.Proofs.YtiamggjebaabkaaGreatDoor
set_option linter.unusedVariables false

/-- Behind i words: where the program's reader stands, and the error. -/
def it11 (l : List UInt8) (k : Nat) : Nat → Nat × Int
  | 0 => (k, 0)
  | i + 1 => (swK l (gaK l (it11 l k i).1 (it11 l k i).2) (gaE l (it11 l k i).1 (it11 l k i).2), swE l (gaK l (it11 l k i).1 (it11 l k i).2) (gaE l (it11 l k i).1 (it11 l k i).2))
/-- Word i. -/
def dgW (l : List UInt8) (k i : Nat) : List UInt8 := swW l (gaK l (it11 l k i).1 (it11 l k i).2) (gaE l (it11 l k i).1 (it11 l k i).2)
def dgE (l : List UInt8) (k : Nat) : Int := enE l (ruK l (it11 l k 5).1 (it11 l k 5).2) (it11 l k 5).2
theorem sw_two (l : List UInt8) (k : Nat) : swK l k 2 = k ∧ swE l k 2 = 2 := by
  unfold swK swE
  rw [rs_two]
  exact ⟨rfl, rfl⟩
theorem hex_gp {b : UInt8} (h : hd b = true) : gp b = false := by
  have h2 : ∀ n : Nat, n < 256 → hd (UInt8.ofNat n) = true → gp (UInt8.ofNat n) = false := by decide +kernel
  have := h2 b.toNat b.toNat_lt
  rw [UInt8.ofNat_toNat] at this
  exact this h
theorem gp_hex {b : UInt8} (h : gp b = true) : hd b = false := by
  cases hh : hd b with
  | false => rfl
  | true => rw [hex_gp hh] at h; cases h
theorem hxB_is {w : List UInt8} : hxB w = true ↔ (∀ b ∈ w, hd b = true) ∧ 1 ≤ w.length ∧ w.length ≤ 8 := by
  unfold hxB hxA
  simp only [Bool.and_eq_true, decide_eq_true_eq, List.all_eq_true]
  exact Iff.rfl
/-- A gap and a word. -/
def Hw (r w r' : List UInt8) : Prop := ∃ g, r = g ++ (w ++ r') ∧ Gs g ∧ g ≠ [] ∧ hxB w = true ∧ ∀ b ∈ r'.head?, hd b = false
theorem en_hex {r : List UInt8} (h : En r) : ∀ b ∈ r.head?, hd b = false := by
  intro b hb
  rcases h with rfl | h
  · cases hb
  · cases r with
    | nil => cases hb
    | cons c r => injection hb with hb; subst hb; exact gp_hex h
theorem sw_yes {l : List UInt8} {k : Nat} {w r' : List UInt8} (h : Hw (l.drop k) w r') : swE l (gaK l k 0) (gaE l k 0) = 0 ∧ l.drop (swK l (gaK l k 0) (gaE l k 0)) = r' ∧ swW l (gaK l k 0) (gaE l k 0) = w := by
  obtain ⟨g, e, h1, h2, h3, h4⟩ := h
  obtain ⟨hh, hp, h8⟩ := hxB_is.1 h3
  have hw0 : w ≠ [] := fun c => by rw [c] at hp; exact absurd hp (by decide)
  obtain ⟨a1, a2, a3⟩ := ga_yes e h1 h2 (wd_head (fun b hb => hex_gp (hh b hb)) hw0)
  have ht : tw hd (l.drop (k + g.length)) = w.length := by rw [a3]; exact tw_app hh h4
  rw [a1, a2]
  unfold swE swK swW
  rw [rs_zero, ht]
  refine ⟨if_neg (by omega), ?_, by rw [a3]; simp⟩
  rw [← List.drop_drop, a3]; simp
theorem sw_cases (l : List UInt8) (k : Nat) : swE l (gaK l k 0) (gaE l k 0) = 2 ∨ ∃ w r', Hw (l.drop k) w r' := by
  rcases ga_part l k with ⟨a1, a2⟩ | ⟨g, m, e, g1, g2, g3, a1, a2, a3⟩
  · left; rw [a1, a2]; exact (sw_two l k).2
  · obtain ⟨w, r', e2, h1, h2, h3, h4, h5⟩ := tw_part hd m
    by_cases hb : w.length = 0 ∨ 8 < w.length
    · left
      rw [a1, a2]
      unfold swE
      rw [rs_zero, a3, h3, if_pos hb]; rfl
    · right
      exact ⟨w, r', g, by rw [e, e2], g1, g2, hxB_is.2 ⟨h1, by omega, by omega⟩, h2⟩
/-- Words, one behind the other, each behind a gap; gaps perhaps behind the last. -/
def Ch : List (List UInt8) → List UInt8 → Prop
  | [], r => Gs r
  | w :: ws, r => ∃ r', Hw r w r' ∧ Ch ws r'
theorem ch_en : ∀ {ws : List (List UInt8)} {r : List UInt8}, Ch ws r → En r
  | [], r, h => gs_en h
  | w :: ws, r, ⟨r', ⟨g, e, h1, h2, _⟩, _⟩ => by rw [e]; exact en_app h1 h2
theorem ch_doc : ∀ {ws : List (List UInt8)} {r : List UInt8}, Ch ws r → wdL r = ws ∧ ws.all hxB = true
  | [], r, h => ⟨wdL_gaps h, rfl⟩
  | w :: ws, r, ⟨r', ⟨g, e, h1, h2, h3, _⟩, hc⟩ => by
    obtain ⟨a, b⟩ := ch_doc hc
    obtain ⟨hh, hp, h8⟩ := hxB_is.1 h3
    have hw0 : w ≠ [] := fun c => by rw [c] at hp; exact absurd hp (by decide)
    refine ⟨?_, by rw [List.all_cons, h3, b]; rfl⟩
    rw [e, wdL_cons h1 (fun b hb => hex_gp (hh b hb)) hw0 (ch_en hc), a]
theorem ch_of : ∀ {ws : List (List UInt8)} {r : List UInt8}, wdL r = ws → ws.all hxB = true → (ws = [] ∨ gpL r = true) → Ch ws r
  | [], r, h, _, _ => wd_none h
  | w :: ws, r, h, ha, hg => by
    obtain ⟨g, r', e, h1, h2, h3, h4, h5⟩ := wd_more h
    rw [List.all_cons, Bool.and_eq_true] at ha
    have hg1 : gpL r = true := by
      rcases hg with hg | hg
      · cases hg
      · exact hg
    refine ⟨r', ⟨g, e, h1, ?_, ha.1, en_hex h4⟩, ch_of h5 ha.2 ?_⟩
    · rintro rfl
      rw [e, List.nil_append] at hg1
      cases w with
      | nil => exact h3 rfl
      | cons b w => have := h2 b (by simp); simp [gpL, this] at hg1
    · rcases h4 with rfl | h4
      · left; rw [← h5]; rfl
      · exact .inr h4
theorem it_yes {l : List UInt8} {k : Nat} : ∀ {ws : List (List UInt8)} {i : Nat}, (it11 l k i).2 = 0 → Ch ws (l.drop (it11 l k i).1) →
    (it11 l k (i + ws.length)).2 = 0 ∧ Gs (l.drop (it11 l k (i + ws.length)).1) ∧ ∀ j u, ws[j]? = some u → dgW l k (i + j) = u
  | [], i, h, hc => ⟨h, hc, fun j u hj => by simp at hj⟩
  | w :: ws, i, h, ⟨r', hw, hc⟩ => by
    obtain ⟨a, b, c⟩ := sw_yes hw
    have e1 : (it11 l k (i + 1)).2 = 0 := by rw [it11, h]; exact a
    have e2 : l.drop (it11 l k (i + 1)).1 = r' := by rw [it11, h]; exact b
    have e3 : dgW l k i = w := by unfold dgW; rw [h]; exact c
    obtain ⟨x, y, z⟩ := it_yes (ws := ws) (i := i + 1) e1 (by rw [e2]; exact hc)
    have en : i + (w :: ws).length = i + 1 + ws.length := by simp; omega
    rw [en]
    refine ⟨x, y, fun j u hj => ?_⟩
    cases j with
    | zero => simp at hj; rw [← hj]; exact e3
    | succ j =>
      have := z j u (by simpa using hj)
      rwa [show i + 1 + j = i + (j + 1) by omega] at this
theorem it_two {l : List UInt8} {k i : Nat} (h : (it11 l k i).2 = 2) : ∀ n, (it11 l k (i + n)).2 = 2
  | 0 => h
  | n + 1 => by
    have ih := it_two h n
    show (it11 l k (i + n + 1)).2 = 2
    rw [it11, ih]
    show swE l (gaK l (it11 l k (i + n)).1 2) (gaE l (it11 l k (i + n)).1 2) = 2
    rw [(ga_two l _).1, (ga_two l _).2]
    exact (sw_two l _).2
theorem it_cases {l : List UInt8} {k : Nat} : ∀ (n i : Nat), (it11 l k i).2 = 0 → (it11 l k (i + n)).2 = 2 ∨ ((it11 l k (i + n)).2 = 0 ∧ ∃ ws, ws.length = n ∧ (Gs (l.drop (it11 l k (i + n)).1) → Ch ws (l.drop (it11 l k i).1)))
  | 0, i, h => .inr ⟨h, [], rfl, fun g => g⟩
  | n + 1, i, h => by
    rcases sw_cases l (it11 l k i).1 with a | ⟨w, r', hw⟩
    · left
      have e1 : (it11 l k (i + 1)).2 = 2 := by rw [it11, h]; exact a
      have := it_two e1 n
      rwa [show i + 1 + n = i + (n + 1) by omega] at this
    · obtain ⟨a, b, c⟩ := sw_yes hw
      have e1 : (it11 l k (i + 1)).2 = 0 := by rw [it11, h]; exact a
      have e2 : l.drop (it11 l k (i + 1)).1 = r' := by rw [it11, h]; exact b
      have en : i + 1 + n = i + (n + 1) := by omega
      rcases it_cases n (i + 1) e1 with x | ⟨x, ws, y, z⟩
      · left; rw [← en]; exact x
      · right
        rw [← en]
        exact ⟨x, w :: ws, by simp [y], fun g => ⟨r', hw, by rw [← e2]; exact z g⟩⟩
/-- The program's reader of digests finds what the document's does. -/
theorem dg_is (l : List UInt8) (k : Nat) : (dgE l k = 0 ∧ gpL (l.drop k) = true ∧ (wdL (l.drop k)).length = 5 ∧ suE (wdL (l.drop k)) = 0 ∧ ∀ j, j < 5 → hxN (dgW l k j) = suN (wdL (l.drop k)) j) ∨
    (dgE l k = 2 ∧ (gpL (l.drop k) = false ∨ (wdL (l.drop k)).length ≠ 5 ∨ suE (wdL (l.drop k)) = 2)) := by
  have yes : ∀ ws : List (List UInt8), ws.length = 5 → Ch ws (l.drop k) → dgE l k = 0 ∧ gpL (l.drop k) = true ∧ (wdL (l.drop k)).length = 5 ∧ suE (wdL (l.drop k)) = 0 ∧ ∀ j, j < 5 → hxN (dgW l k j) = suN (wdL (l.drop k)) j := by
    intro ws h5 hc
    obtain ⟨a, b, c⟩ := it_yes (l := l) (k := k) (ws := ws) (i := 0) rfl hc
    rw [h5, Nat.zero_add] at a b
    obtain ⟨x, y⟩ := ch_doc hc
    refine ⟨?_, ?_, by rw [x]; exact h5, ?_, fun j hj => ?_⟩
    · unfold dgE
      rw [a, en_zero, if_pos (ru_gaps b)]
    · rcases ch_en hc with hn | hn
      · exfalso
        rw [hn] at x
        rw [← x] at h5
        exact absurd h5 (by decide)
      · exact hn
    · unfold suE; rw [x, if_pos y]
    · have hj5 : j < ws.length := by omega
      have := c j ws[j] (List.getElem?_eq_getElem hj5)
      rw [Nat.zero_add] at this
      unfold suN
      rw [x, this, List.getElem?_eq_getElem hj5]; rfl
  by_cases hd : gpL (l.drop k) = true ∧ (wdL (l.drop k)).length = 5 ∧ (wdL (l.drop k)).all hxB = true
  · exact .inl (yes _ hd.2.1 (ch_of rfl hd.2.2 (.inr hd.1)))
  · rcases it_cases (l := l) (k := k) 5 0 rfl with a | ⟨a, ws, h5, hc⟩
    · right
      rw [Nat.zero_add] at a
      refine ⟨by unfold dgE; rw [a]; exact en_two _ _, ?_⟩
      by_cases h1 : gpL (l.drop k) = true
      · by_cases h2 : (wdL (l.drop k)).length = 5
        · right; right
          unfold suE
          rw [if_neg (fun c => hd ⟨h1, h2, c⟩)]
        · exact .inr (.inl h2)
      · exact .inl (by simpa using h1)
    · rw [Nat.zero_add] at a hc
      by_cases hz : l.drop (ruK l (it11 l k 5).1 0) = []
      · exact .inl (yes ws h5 (hc (ru_end hz)))
      · right
        refine ⟨by unfold dgE; rw [a, en_zero, if_neg hz], ?_⟩
        by_cases h1 : gpL (l.drop k) = true
        · by_cases h2 : (wdL (l.drop k)).length = 5
          · right; right
            unfold suE
            rw [if_neg (fun c => hd ⟨h1, h2, c⟩)]
          · exact .inr (.inl h2)
        · exact .inl (by simpa using h1)

end Go.Proofs.YtiamggjebaabkaaGreatDoor

namespace Go.Proofs.YtiamggjebaabkaaGreatDoor
open Go.RowKit
set_option linter.unusedVariables false

/-- A word's value. -/
def u (x : BitVec 32) : Int := (x.toNat : Int)
theorem u_lo (x : BitVec 32) : 0 ≤ u x := by unfold u; omega
theorem u_hi (x : BitVec 32) : u x ≤ 4294967295 := by unfold u; have := x.isLt; omega
theorem wrap32 (n : Nat) : IntKind.u32.wrap (n : Int) = ((n % 4294967296 : Nat) : Int) := by
  simp [IntKind.wrap, IntKind.signed, IntKind.bits]
theorem of_u (x : BitVec 32) : BitVec.ofInt 32 (u x) = x := by
  unfold u; apply BitVec.eq_of_toNat_eq; simp
theorem u_and (x y : BitVec 32) : bits .and .u32 (u x) (u y) = u (x &&& y) := by
  unfold bits
  show IntKind.u32.wrap (((BitVec.ofInt 32 (u x) &&& BitVec.ofInt 32 (u y)).toNat : Nat) : Int) = _
  rw [of_u, of_u, wrap32, Nat.mod_eq_of_lt (x &&& y).isLt]; rfl
theorem u_or (x y : BitVec 32) : bits .or .u32 (u x) (u y) = u (x ||| y) := by
  unfold bits
  show IntKind.u32.wrap (((BitVec.ofInt 32 (u x) ||| BitVec.ofInt 32 (u y)).toNat : Nat) : Int) = _
  rw [of_u, of_u, wrap32, Nat.mod_eq_of_lt (x ||| y).isLt]; rfl
theorem u_xor (x y : BitVec 32) : bits .xor .u32 (u x) (u y) = u (x ^^^ y) := by
  unfold bits
  show IntKind.u32.wrap (((BitVec.ofInt 32 (u x) ^^^ BitVec.ofInt 32 (u y)).toNat : Nat) : Int) = _
  rw [of_u, of_u, wrap32, Nat.mod_eq_of_lt (x ^^^ y).isLt]; rfl
theorem u_not (x : BitVec 32) : bits .xor .u32 4294967295 (u x) = u (~~~x) := by
  have h : (4294967295 : Int) = u (BitVec.allOnes 32) := by decide
  rw [h, u_xor, BitVec.allOnes_xor]
theorem u_add (x y : BitVec 32) : IntKind.u32.wrap (u x + u y) = u (x + y) := by
  unfold u
  rw [show (x.toNat : Int) + (y.toNat : Int) = ((x.toNat + y.toNat : Nat) : Int) by omega, wrap32, BitVec.toNat_add]
theorem u_shl (x : BitVec 32) (k : Nat) : IntKind.u32.wrap (u x * 2 ^ k) = u (x <<< k) := by
  unfold u
  rw [show (x.toNat : Int) * 2 ^ k = ((x.toNat * 2 ^ k : Nat) : Int) by push_cast; rfl, wrap32, BitVec.toNat_shiftLeft, Nat.shiftLeft_eq]
theorem u_shr (x : BitVec 32) (k : Nat) : u x / 2 ^ k = u (x >>> k) := by
  unfold u
  rw [BitVec.toNat_ushiftRight, Nat.shiftRight_eq_div_pow, show (2 : Int) ^ k = ((2 ^ k : Nat) : Int) by push_cast; rfl]
  rfl

/-- A word turned left. -/
def rot (x : BitVec 32) (k : Nat) : BitVec 32 := x <<< k ||| x >>> (32 - k)
/-- The state. -/
structure St where
  a : BitVec 32
  b : BitVec 32
  c : BitVec 32
  d : BitVec 32
  e : BitVec 32
/-- A round's choice, its number, and the state behind it. -/
def ff (t : Nat) (b c d : BitVec 32) : BitVec 32 := if t ≤ 19 then (b &&& c) ||| (~~~b &&& d) else if t ≤ 39 then b ^^^ c ^^^ d else if t ≤ 59 then (b &&& c) ||| (b &&& d) ||| (c &&& d) else b ^^^ c ^^^ d
def kk (t : Nat) : BitVec 32 := if t ≤ 19 then 0x5a827999#32 else if t ≤ 39 then 0x6ed9eba1#32 else if t ≤ 59 then 0x8f1bbcdc#32 else 0xca62c1d6#32
def srd (t : Nat) (x : BitVec 32) (s : St) : St := ⟨rot s.a 5 + ff t s.b s.c s.d + s.e + kk t + x, s.a, rot s.b 30, s.c, s.d⟩

end Go.Proofs.YtiamggjebaabkaaGreatDoor
