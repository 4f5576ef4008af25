/- Merged: ListQ. -/
import Derived.Test.YtdonicaiimeleaaGreatDoorGListParses24
import Derived.Test.YtdonicaiimeleaaGreatDoorGListParses25
namespace Go.Proofs.YtdonicaiimeleaaGreatDoor
set_option linter.unusedVariables false

theorem gs_gpL {g r : List UInt8} (h : Gs g) (h0 : g ≠ []) : gpL (g ++ r) = true := by
  cases g with
  | nil => exact absurd rfl h0
  | cons b g => exact h b (by simp)
theorem gs_en {g : List UInt8} (h : Gs g) : En g := by
  cases g with
  | nil => exact .inl rfl
  | cons b g => exact .inr (h b (by simp))
theorem en_app {g r : List UInt8} (h : Gs g) (h0 : g ≠ []) : En (g ++ r) := .inr (gs_gpL h h0)
theorem en_head {r : List UInt8} (h : En r) : ∀ b ∈ r.head?, isd b = false := by
  intro b hb
  rcases h with rfl | h
  · cases hb
  · cases r with
    | nil => cases hb
    | cons c r => injection hb with hb; subst hb; exact isd_gp h
theorem wd_head {w r : List UInt8} (hw : Wd w) (h0 : w ≠ []) : ∀ b ∈ (w ++ r).head?, gp b = false := by
  intro b hb
  cases w with
  | nil => exact absurd rfl h0
  | cons c w => injection hb with hb; subst hb; exact hw _ (by simp)
theorem no_head {p : UInt8 → Bool} : ∀ b ∈ ([] : List UInt8).head?, p b = false := fun b hb => by cases hb
theorem gs_tw {g : List UInt8} (h : Gs g) : tw gp g = g.length := by
  have := tw_app (p := gp) (g := g) (r := []) h no_head
  rwa [List.append_nil] at this

/-- What a gap that must be there takes, and the error behind it. -/
def gaK (l : List UInt8) (k : Nat) (e : Int) : Nat := k + tw gp (rs l k e)
def gaE (l : List UInt8) (k : Nat) (e : Int) : Int := if tw gp (rs l k e) = 0 then flE e 2 else e
theorem rs_two (l : List UInt8) (k : Nat) : rs l k 2 = [] := rs_bad l k (by decide)
theorem ga_two (l : List UInt8) (k : Nat) : gaK l k 2 = k ∧ gaE l k 2 = 2 := by
  unfold gaK gaE
  rw [rs_two]
  exact ⟨rfl, rfl⟩
theorem ga_yes {l : List UInt8} {k : Nat} {g m : List UInt8} (h : l.drop k = g ++ m) (hg : Gs g) (h0 : g ≠ []) (hm : ∀ b ∈ m.head?, gp b = false) : gaK l k 0 = k + g.length ∧ gaE l k 0 = 0 ∧ l.drop (k + g.length) = m := by
  have ht : tw gp (l.drop k) = g.length := by rw [h]; exact tw_app hg hm
  unfold gaK gaE
  rw [rs_zero, ht]
  refine ⟨rfl, if_neg (fun e => h0 (List.eq_nil_of_length_eq_zero e)), ?_⟩
  rw [← List.drop_drop, h]; simp
/-- There is no gap, or it is taken. -/
theorem ga_part (l : List UInt8) (k : Nat) : (gaK l k 0 = k ∧ gaE l k 0 = 2) ∨ ∃ g m, l.drop k = g ++ m ∧ Gs g ∧ g ≠ [] ∧ (∀ b ∈ m.head?, gp b = false) ∧ gaK l k 0 = k + g.length ∧ gaE l k 0 = 0 ∧ l.drop (k + g.length) = m := by
  obtain ⟨g, m, e, h1, h2, h3, h4, h5⟩ := tw_part gp (l.drop k)
  by_cases h0 : g = []
  · subst h0
    left
    unfold gaK gaE
    rw [rs_zero, h3]
    exact ⟨rfl, rfl⟩
  · right
    obtain ⟨a, b, c⟩ := ga_yes e h1 h0 h2
    exact ⟨g, m, e, h1, h0, h2, a, b, c⟩
theorem fg_two (l : List UInt8) (k : Nat) (a b : Int) : fgK k (rs l k 2) 2 a b = k ∧ fgE (rs l k 2) 2 a b = 2 := by
  unfold fgK fgE
  rw [if_neg (by decide), if_neg (by decide)]
  exact ⟨rfl, rfl⟩
theorem fg_yes {l : List UInt8} {k n : Nat} {d m : List UInt8} (h : l.drop k = d ++ m) (hd : Fg n d) (hn : n ≤ 13) (hm : ∀ b ∈ m.head?, isd b = false) :
    fgK k (rs l k 0) 0 1 n = k + d.length ∧ fgE (rs l k 0) 0 1 n = 0 ∧ fgN (rs l k 0) 0 1 n = (dv d : Int) ∧ l.drop (k + d.length) = m := by
  have hk : tkk (l.drop k) (n : Int) = d.length := by rw [h]; exact tkk_app hd hm
  have h1 : 1 ≤ n := Nat.le_trans hd.2.1 hd.2.2
  have hE : tkE (l.drop k) 1 n mx = 0 := by rw [tk_two h1 hn, if_neg (by rw [hk]; have := hd.2.1; omega)]
  unfold fgK fgE fgN
  rw [rs_zero, if_pos rfl, if_pos rfl, if_pos rfl]
  refine ⟨?_, hE, ?_, ?_⟩
  · unfold tkK; rw [if_pos hE, hk]
  · unfold tkN; rw [if_pos hE, hk, h]; simp
  · rw [← List.drop_drop, h]; simp
theorem fg_cases (l : List UInt8) (k : Nat) {n : Nat} (h1 : 1 ≤ n) (hn : n ≤ 13) : (fgK k (rs l k 0) 0 1 n = k ∧ fgE (rs l k 0) 0 1 n = 2) ∨ ∃ d m, l.drop k = d ++ m ∧ Fg n d ∧
    fgK k (rs l k 0) 0 1 n = k + d.length ∧ fgE (rs l k 0) 0 1 n = 0 ∧ fgN (rs l k 0) 0 1 n = (dv d : Int) ∧ l.drop (k + d.length) = m := by
  have hE := tk_two (l := l.drop k) h1 hn
  unfold fgK fgE fgN
  rw [rs_zero, if_pos rfl, if_pos rfl, if_pos rfl]
  by_cases h0 : tkk (l.drop k) (n : Int) = 0
  · rw [if_pos h0] at hE
    left
    exact ⟨by unfold tkK; rw [if_neg (by rw [hE]; decide)]; rfl, hE⟩
  · rw [if_neg h0] at hE
    obtain ⟨d, m, e, hd, h2, h3, h4⟩ := fg_part h1 h0
    refine .inr ⟨d, m, e, hd, ?_, hE, ?_, ?_⟩
    · unfold tkK; rw [if_pos hE, h2]
    · unfold tkN; rw [if_pos hE, h4]
    · rw [← List.drop_drop, ← h2]; exact h3
theorem en_two (l : List UInt8) (k : Nat) : enE l k 2 = 2 := by unfold enE; rw [if_neg (by rintro ⟨h, _⟩; cases h)]
theorem en_zero {l : List UInt8} {k : Nat} : enE l k 0 = if l.drop k = [] then 0 else 2 := by
  unfold enE
  by_cases h : k < l.length
  · rw [if_pos ⟨rfl, h⟩, if_neg (fun c => by have := List.drop_eq_nil_iff.1 c; omega)]
  · rw [if_neg (fun c => h c.2), if_pos (List.drop_eq_nil_iff.2 (by omega))]
/-- What gaps that may be there take. -/
def ruK (l : List UInt8) (k : Nat) (e : Int) : Nat := k + tw gp (rs l k e)
theorem ru_gaps {l : List UInt8} {k : Nat} (h : Gs (l.drop k)) : l.drop (ruK l k 0) = [] := by
  unfold ruK
  rw [rs_zero, gs_tw h, ← List.drop_drop, List.drop_length]
theorem ru_end {l : List UInt8} {k : Nat} (h : l.drop (ruK l k 0) = []) : Gs (l.drop k) := by
  obtain ⟨g, m, e, h1, h2, h3, h4, h5⟩ := tw_part gp (l.drop k)
  unfold ruK at h
  rw [rs_zero, ← List.drop_drop, h4] at h
  rw [e, h, List.append_nil]; exact h1

/-! ### a time -/
/-- A time behind its sign: a gap, a number, and gaps perhaps. -/
def TmF (r d : List UInt8) : Prop := ∃ g g2, r = g ++ (d ++ g2) ∧ Gs g ∧ g ≠ [] ∧ Fg 13 d ∧ Gs g2
theorem tm_doc {r d : List UInt8} (h : TmF r d) : tiE r = 0 ∧ tiN r = dv d := by
  obtain ⟨g, g2, e, h1, h2, h3, h4⟩ := h
  have hw : wdL r = [d] := by rw [e, wdL_cons h1 h3.wd h3.ne (gs_en h4), wdL_gaps h4]
  have ha : wdA r 0 = d := by unfold wdA; rw [hw]; rfl
  obtain ⟨e1, e2⟩ := ti_yes (l := r) (by rw [e]; exact gs_gpL h1 h2) (by rw [hw]; rfl)
  rw [e1, e2, ha]
  exact wh_fg h3 (by decide)
theorem tm_no {r : List UInt8} : tiE r = 2 ∨ ∃ d, TmF r d := by
  by_cases h : gpL r = true ∧ (wdL r).length = 1
  · obtain ⟨e1, _⟩ := ti_yes h.1 h.2
    match hw : wdL r, h.2 with
    | [w], _ =>
      have ha : wdA r 0 = w := by unfold wdA; rw [hw]; rfl
      rcases whf_two (d := w) (n := 13) (by decide) (by decide) with h2 | ⟨h2, hf⟩
      · exact .inl (by rw [e1, ha]; exact h2)
      · right
        obtain ⟨g, r', e, g1, g2, g3, g4, g5⟩ := wd_more hw
        refine ⟨w, g, r', e, g1, ?_, hf, wd_none g5⟩
        rintro rfl
        rw [e, List.nil_append] at h
        cases w with
        | nil => exact g3 rfl
        | cons b w => have := g2 b (by simp); have h1 := h.1; simp [gpL, this] at h1
  · exact .inl (ti_no h).1
/-- The program's. -/
def tmK1 (l : List UInt8) (k : Nat) : Nat := gaK l k 0
def tmE1 (l : List UInt8) (k : Nat) : Int := gaE l k 0
def tmK2 (l : List UInt8) (k : Nat) : Nat := fgK (tmK1 l k) (rs l (tmK1 l k) (tmE1 l k)) (tmE1 l k) 1 13
def tmE2 (l : List UInt8) (k : Nat) : Int := fgE (rs l (tmK1 l k) (tmE1 l k)) (tmE1 l k) 1 13
def tmN (l : List UInt8) (k : Nat) : Int := fgN (rs l (tmK1 l k) (tmE1 l k)) (tmE1 l k) 1 13
def tmE (l : List UInt8) (k : Nat) : Int := enE l (ruK l (tmK2 l k) (tmE2 l k)) (tmE2 l k)
theorem tm_yes {l : List UInt8} {k : Nat} {d : List UInt8} (h : TmF (l.drop k) d) : tmE l k = 0 ∧ tmN l k = (dv d : Int) := by
  obtain ⟨g, g2, e, h1, h2, h3, h4⟩ := h
  obtain ⟨a1, a2, a3⟩ := ga_yes e h1 h2 (wd_head h3.wd h3.ne)
  obtain ⟨b1, b2, b3, b4⟩ := fg_yes a3 h3 (by decide) (en_head (gs_en h4))
  have e1 : tmK1 l k = k + g.length := a1
  have e2 : tmE1 l k = 0 := a2
  have e3 : tmK2 l k = k + g.length + d.length := by unfold tmK2; rw [e1, e2]; exact b1
  have e4 : tmE2 l k = 0 := by unfold tmE2; rw [e1, e2]; exact b2
  refine ⟨?_, by unfold tmN; rw [e1, e2]; exact b3⟩
  unfold tmE
  rw [e3, e4, en_zero, if_pos (ru_gaps (by rw [b4]; exact h4))]
theorem tm_else (l : List UInt8) (k : Nat) : tmE l k = 2 ∨ ∃ d, TmF (l.drop k) d := by
  rcases ga_part l k with ⟨a1, a2⟩ | ⟨g, m, e, g1, g2, g3, a1, a2, a3⟩
  · left
    have e1 : tmK1 l k = k := a1
    have e2 : tmE1 l k = 2 := a2
    have e4 : tmE2 l k = 2 := by unfold tmE2; rw [e1, e2]; exact (fg_two l k 1 13).2
    unfold tmE; rw [e4, en_two]
  · have e1 : tmK1 l k = k + g.length := a1
    have e2 : tmE1 l k = 0 := a2
    rcases fg_cases l (k + g.length) (n := 13) (by decide) (by decide) with ⟨b1, b2⟩ | ⟨d, m2, e5, hd, b1, b2, b3, b4⟩
    · left
      have e4 : tmE2 l k = 2 := by unfold tmE2; rw [e1, e2]; exact b2
      unfold tmE; rw [e4, en_two]
    · have e3 : tmK2 l k = k + g.length + d.length := by unfold tmK2; rw [e1, e2]; exact b1
      have e4 : tmE2 l k = 0 := by unfold tmE2; rw [e1, e2]; exact b2
      unfold tmE
      rw [e3, e4, en_zero]
      by_cases hz : l.drop (ruK l (k + g.length + d.length) 0) = []
      · right
        have h4 := ru_end hz
        rw [b4] at h4
        exact ⟨d, g, m2, by rw [e, ← a3, e5], g1, g2, hd, h4⟩
      · left; rw [if_neg hz]
/-- The program's reader of times finds what the document's does. -/
theorem tm_is (l : List UInt8) (k : Nat) : tmE l k = tiE (l.drop k) ∧ (tiE (l.drop k) = 0 → tmN l k = (tiN (l.drop k) : Nat)) := by
  by_cases h : ∃ d, TmF (l.drop k) d
  · obtain ⟨d, h⟩ := h
    obtain ⟨a, b⟩ := tm_yes h
    obtain ⟨c, e⟩ := tm_doc h
    rw [a, b, c, e]
    exact ⟨rfl, fun _ => rfl⟩
  · rcases tm_else l k with a | a
    · rcases tm_no (r := l.drop k) with c | c
      · rw [a, c]; exact ⟨rfl, fun e => absurd e (by decide)⟩
      · exact absurd c h
    · exact absurd a h
theorem ti_zt (r : List UInt8) : tiE r = 0 ∨ tiE r = 2 := by
  rcases tm_no (r := r) with h | ⟨d, h⟩
  · exact .inr h
  · exact .inl (tm_doc h).1

/-! ### a row -/
/-- A place where a remark may begin. -/
def Cu (l : List UInt8) (i : Nat) : Prop := 0 < i ∧ l[i]? = some 35 ∧ (l[i - 1]?.map gp) = some true
theorem ctS_none {l : List UInt8} : ∀ {i : Nat}, (∀ j, j < i → ¬ Cu l j) → ctS l i = l.length
  | 0, _ => rfl
  | i + 1, h => by
    have ih := ctS_none (l := l) (i := i) fun j hj => h j (by omega)
    rw [ctS, if_neg (by omega)]; exact if_neg (h i (by omega))
theorem ctS_some {l : List UInt8} : ∀ {i : Nat}, ctS l i < l.length → Cu l (ctS l i) ∧ ctS l i < i
  | 0, h => by rw [ctS] at h; omega
  | i + 1, h => by
    rw [ctS] at h ⊢
    by_cases h1 : ctS l i < l.length
    · rw [if_pos h1]
      have := ctS_some h1
      exact ⟨this.1, by omega⟩
    · rw [if_neg h1] at h ⊢
      by_cases h2 : 0 < i ∧ l[i]? = some 35 ∧ (l[i - 1]?.map gp) = some true
      · rw [if_pos h2]; exact ⟨h2, by omega⟩
      · rw [if_neg h2] at h; omega
theorem ctL_none {l : List UInt8} (h : ∀ j, ¬ Cu l j) : ctL l = l.length := ctS_none fun j _ => h j
theorem ctL_first {l : List UInt8} {p : Nat} (h : Cu l p) (hj : ∀ j, j < p → ¬ Cu l j) : ctL l = p := by
  have hp : p < l.length := (List.getElem?_eq_some_iff.1 h.2.1).1
  have h1 := ctS_none hj
  have h2 : ctS l (p + 1) = p := by rw [ctS, if_neg (by omega)]; exact if_pos h
  have := ct_found (l := l) (i := p + 1) (by omega) hp
  rw [this, h2]
theorem ctL_cases (l : List UInt8) : ctL l = l.length ∨ (ctL l < l.length ∧ Cu l (ctL l)) := by
  have h := ctS_le l l.length (Nat.le_refl _)
  by_cases h1 : ctL l < l.length
  · exact .inr ⟨h1, (ctS_some (l := l) (i := l.length) h1).1⟩
  · left; unfold ctL at h1 ⊢; omega
/-- What may stand behind a row's numbers. -/
def Tl (r : List UInt8) : Prop := Gs r ∨ ∃ g r', r = g ++ 35 :: r' ∧ Gs g ∧ g ≠ []
/-- A row: a number and an offset. -/
def RwF (l d1 d2 : List UInt8) : Prop := ∃ g0 g1 r, l = g0 ++ (d1 ++ (g1 ++ (d2 ++ r))) ∧ Gs g0 ∧ Fg 13 d1 ∧ Gs g1 ∧ g1 ≠ [] ∧ Fg 4 d2 ∧ Tl r
theorem tl_en {r : List UInt8} (h : Tl r) : En r := by
  rcases h with h | ⟨g, r', rfl, h1, h2⟩
  · exact gs_en h
  · exact en_app h1 h2
theorem rw_words {l d1 d2 : List UInt8} (h : RwF l d1 d2) : wdL (rwW l) = [d1, d2] := by
  obtain ⟨g0, g1, r, e, h0, h1, h2, h3, h4, h5⟩ := h
  have no35 : ∀ A : List UInt8, (∀ b ∈ A, gp b = true ∨ isd b = true) → ∀ b ∈ A, b ≠ 35 := by
    rintro A hA b hb rfl
    rcases hA _ hb with h | h
    · exact absurd h (by decide)
    · exact absurd h (by decide)
  have cut : ∃ g, rwW l = g0 ++ (d1 ++ (g1 ++ (d2 ++ g))) ∧ Gs g := by
    rcases h5 with h5 | ⟨g, r', rfl, h5, h6⟩
    · refine ⟨r, ?_, h5⟩
      have hn : ∀ b ∈ l, b ≠ 35 := no35 l (by
        intro b hb
        rw [e] at hb
        simp only [List.mem_append] at hb
        rcases hb with hb | hb | hb | hb | hb
        · exact .inl (h0 b hb)
        · exact .inr (h1.1 b hb)
        · exact .inl (h2 b hb)
        · exact .inr (h4.1 b hb)
        · exact .inl (h5 b hb))
      have hc : ctL l = l.length := ctL_none fun j hj => hn 35 (List.mem_of_getElem? hj.2.1) rfl
      unfold rwW
      rw [hc, List.take_length, e]
    · refine ⟨g, ?_, h5⟩
      obtain ⟨A, hA⟩ : ∃ A, A = g0 ++ (d1 ++ (g1 ++ (d2 ++ g))) := ⟨_, rfl⟩
      have el : l = A ++ 35 :: r' := by rw [e, hA]; simp
      have hn : ∀ b ∈ A, b ≠ 35 := no35 A (by
        intro b hb
        rw [hA] at hb
        simp only [List.mem_append] at hb
        rcases hb with hb | hb | hb | hb | hb
        · exact .inl (h0 b hb)
        · exact .inr (h1.1 b hb)
        · exact .inl (h2 b hb)
        · exact .inr (h4.1 b hb)
        · exact .inl (h5 b hb))
      have hpos : 0 < A.length := by rw [hA]; have := h1.2.1; simp; omega
      have hlast : (A[A.length - 1]?.map gp) = some true := by
        have e2 : A = (g0 ++ (d1 ++ (g1 ++ d2))) ++ g := by rw [hA]; simp
        have hgl : 0 < g.length := Nat.pos_of_ne_zero fun c => h6 (List.eq_nil_of_length_eq_zero c)
        rw [e2, List.getElem?_append_right (by simp; omega)]
        have hi : ((g0 ++ (d1 ++ (g1 ++ d2))) ++ g).length - 1 - (g0 ++ (d1 ++ (g1 ++ d2))).length = g.length - 1 := by simp; omega
        rw [hi, List.getElem?_eq_getElem (by omega)]
        simp only [Option.map_some]
        rw [h5 _ (List.getElem_mem _)]
      have hc : ctL l = A.length := by
        refine ctL_first ⟨hpos, by rw [el]; simp, ?_⟩ fun j hj hcu => ?_
        · rw [el, List.getElem?_append_left (by omega)]; exact hlast
        · have := hcu.2.1
          rw [el, List.getElem?_append_left hj] at this
          exact hn 35 (List.mem_of_getElem? this) rfl
      unfold rwW
      rw [hc, el, ← hA]; simp
  obtain ⟨g, ec, hg⟩ := cut
  rw [ec, wdL_cons h0 h1.wd h1.ne (en_app h2 h3), wdL_cons h2 h4.wd h4.ne (gs_en hg), wdL_gaps hg]
theorem rw_else (l : List UInt8) : rwE l = 2 ∨ ∃ d1 d2, RwF l d1 d2 := by
  by_cases h2 : (wdL (rwW l)).length = 2
  · match hw : wdL (rwW l), h2 with
    | [w0, w1], _ =>
      have ha : wdA (rwW l) 0 = w0 := by unfold wdA; rw [hw]; rfl
      have hb : wdA (rwW l) 1 = w1 := by unfold wdA; rw [hw]; rfl
      rcases whf_two (d := w0) (n := 13) (by decide) (by decide) with c1 | ⟨c1, hf1⟩
      · exact .inl (rw_form h2 (.inl (by rw [ha, show ((13 : Int)) = ((13 : Nat) : Int) from rfl, c1]; decide))).1
      rcases whf_two (d := w1) (n := 4) (by decide) (by decide) with c2 | ⟨c2, hf2⟩
      · exact .inl (rw_form h2 (.inr (by rw [hb, show ((4 : Int)) = ((4 : Nat) : Int) from rfl, c2]; decide))).1
      right
      obtain ⟨g0, r', e0, a1, a2, a3, a4, a5⟩ := wd_more hw
      obtain ⟨g1, r, e1, b1, b2, b3, b4, b5⟩ := wd_more a5
      have hg := wd_none b5
      have h1n : g1 ≠ [] := by
        rintro rfl
        rw [List.nil_append] at e1
        rcases a4 with rfl | a4
        · cases w1 with
          | nil => exact b3 rfl
          | cons b w => cases e1
        · rw [e1] at a4
          cases w1 with
          | nil => exact b3 rfl
          | cons b w => have := b2 b (by simp); simp [gpL, this] at a4
      have et : l.take (ctL l) = g0 ++ (w0 ++ (g1 ++ (w1 ++ r))) := by
        show rwW l = _
        rw [e0, e1]
      have hl : l = g0 ++ (w0 ++ (g1 ++ (w1 ++ (r ++ l.drop (ctL l))))) := by
        conv => lhs; rw [← List.take_append_drop (ctL l) l, et]
        simp
      refine ⟨w0, w1, g0, g1, r ++ l.drop (ctL l), hl, a1, hf1, b1, h1n, hf2, ?_⟩
      rcases ctL_cases l with hc | ⟨hc, hcu⟩
      · left
        rw [hc, List.drop_length, List.append_nil]; exact hg
      · right
        have hd : l.drop (ctL l) = 35 :: l.drop (ctL l + 1) := by
          rw [List.drop_eq_getElem_cons hc, (List.getElem?_eq_some_iff.1 hcu.2.1).2]
        refine ⟨r, l.drop (ctL l + 1), by rw [hd], hg, ?_⟩
        rintro rfl
        have hlen : (l.take (ctL l)).length = ctL l := by rw [List.length_take]; omega
        have hA : l.take (ctL l) = (g0 ++ (w0 ++ g1)) ++ w1 := by rw [et]; simp
        have hw1 : 0 < w1.length := hf2.2.1
        have h3 : (l.take (ctL l))[ctL l - 1]? = some w1[w1.length - 1] := by
          rw [hA, List.getElem?_append_right (by have := congrArg List.length hA; rw [hlen] at this; simp at this; simp; omega)]
          have hi : ctL l - 1 - (g0 ++ (w0 ++ g1)).length = w1.length - 1 := by
            have := congrArg List.length hA; rw [hlen, List.length_append] at this; omega
          rw [hi, List.getElem?_eq_getElem (by omega)]
        rw [List.getElem?_take, if_pos (by have := hcu.1; omega)] at h3
        have h4 := hcu.2.2
        rw [h3] at h4
        have h5 := b2 w1[w1.length - 1] (List.getElem_mem _)
        simp [h5] at h4
  · exact .inl (rw_two h2).1
/-- What the document's row is, by the form. -/
theorem rw_doc {l d1 d2 : List UInt8} (h : RwF l d1 d2) : rwE l = (if dv d1 % 86400 ≠ 0 then 1 else 0) ∧ (dv d1 % 86400 = 0 → rwA l = dv d1 ∧ rwO11 l = dv d2) := by
  have hw := rw_words h
  obtain ⟨g0, g1, r, e, h0, h1, h2, h3, h4, h5⟩ := h
  have ha : wdA (rwW l) 0 = d1 := by unfold wdA; rw [hw]; rfl
  have hb : wdA (rwW l) 1 = d2 := by unfold wdA; rw [hw]; rfl
  obtain ⟨a1, a2⟩ := wh_fg h1 (by decide)
  obtain ⟨b1, b2⟩ := wh_fg h4 (by decide)
  have a1' : whE (wdA (rwW l) 0) 1 13 mx = 0 := by rw [ha]; exact a1
  have a2' : whN (wdA (rwW l) 0) 1 13 mx = dv d1 := by rw [ha]; exact a2
  have b1' : whE (wdA (rwW l) 1) 1 4 mx = 0 := by rw [hb]; exact b1
  have b2' : whN (wdA (rwW l) 1) 1 4 mx = dv d2 := by rw [hb]; exact b2
  by_cases hz : dv d1 % 86400 = 0
  · obtain ⟨c1, c2, c3⟩ := rw_good (by rw [hw]; rfl) a1' b1' (by rw [a2']; exact hz)
    rw [if_neg (by omega)]
    exact ⟨c1, fun _ => ⟨by rw [c2, a2'], by rw [c3, b2']⟩⟩
  · obtain ⟨c1, _⟩ := rw_range (by rw [hw]; rfl) a1' b1' (by rw [a2']; exact hz)
    rw [if_pos hz]
    exact ⟨c1, fun c => absurd c hz⟩

/-- The program's row, from a place on. -/
def rrK1 (l : List UInt8) (k : Nat) : Nat := fgK k (rs l k 0) 0 1 13
def rrE1 (l : List UInt8) (k : Nat) : Int := fgE (rs l k 0) 0 1 13
def rrA (l : List UInt8) (k : Nat) : Int := fgN (rs l k 0) 0 1 13
def rrK2 (l : List UInt8) (k : Nat) : Nat := gaK l (rrK1 l k) (rrE1 l k)
def rrE2 (l : List UInt8) (k : Nat) : Int := gaE l (rrK1 l k) (rrE1 l k)
def rrK3 (l : List UInt8) (k : Nat) : Nat := fgK (rrK2 l k) (rs l (rrK2 l k) (rrE2 l k)) (rrE2 l k) 1 4
def rrE3 (l : List UInt8) (k : Nat) : Int := fgE (rs l (rrK2 l k) (rrE2 l k)) (rrE2 l k) 1 4
def rrB (l : List UInt8) (k : Nat) : Int := fgN (rs l (rrK2 l k) (rrE2 l k)) (rrE2 l k) 1 4
def rrK4 (l : List UInt8) (k : Nat) : Nat := ruK l (rrK3 l k) (rrE3 l k)
def rrT (l : List UInt8) (k : Nat) : Bool := decide (0 < tw gp (rs l (rrK3 l k) (rrE3 l k))) && ((rs l (rrK4 l k) (rrE3 l k)).head? == some 35)
def rrK5 (l : List UInt8) (k : Nat) : Nat := if rrT l k = true then rrK4 l k + 1 + (rs l (rrK4 l k + 1) (rrE3 l k)).length else rrK4 l k
def rrE (l : List UInt8) (k : Nat) : Int := enE l (rrK5 l k) (rrE3 l k)
theorem rr_yes {l d1 d2 : List UInt8} {k : Nat} (h : RwF l d1 d2) (hk : k = tw gp l) : rrE l k = 0 ∧ rrA l k = (dv d1 : Int) ∧ rrB l k = (dv d2 : Int) := by
  obtain ⟨g0, g1, r, e, h0, h1, h2, h3, h4, h5⟩ := h
  have e0 : k = g0.length := by rw [hk, e]; exact tw_app h0 (wd_head h1.wd h1.ne)
  have d0 : l.drop k = d1 ++ (g1 ++ (d2 ++ r)) := by rw [e0, e]; simp
  obtain ⟨a1, a2, a3, a4⟩ := fg_yes d0 h1 (by decide) (en_head (en_app h2 h3))
  have k1 : rrK1 l k = k + d1.length := a1
  have x1 : rrE1 l k = 0 := a2
  obtain ⟨b1, b2, b3⟩ := ga_yes a4 h2 h3 (wd_head h4.wd h4.ne)
  have k2 : rrK2 l k = k + d1.length + g1.length := by unfold rrK2; rw [k1, x1]; exact b1
  have x2 : rrE2 l k = 0 := by unfold rrE2; rw [k1, x1]; exact b2
  obtain ⟨c1, c2, c3, c4⟩ := fg_yes b3 h4 (by decide) (en_head (tl_en h5))
  have k3 : rrK3 l k = k + d1.length + g1.length + d2.length := by unfold rrK3; rw [k2, x2]; exact c1
  have x3 : rrE3 l k = 0 := by unfold rrE3; rw [k2, x2]; exact c2
  refine ⟨?_, a3, by unfold rrB; rw [k2, x2]; exact c3⟩
  unfold rrE
  rw [x3, en_zero]
  have c4' : l.drop (rrK3 l k) = r := by rw [k3]; exact c4
  rw [if_pos]
  rcases h5 with h5 | ⟨g, r', rfl, h5, h6⟩
  · have hd : l.drop (rrK4 l k) = [] := by unfold rrK4; rw [x3]; exact ru_gaps (by rw [c4']; exact h5)
    have hT : rrT l k = false := by
      unfold rrT
      rw [x3, rs_zero, rs_zero, hd]; simp
    unfold rrK5
    rw [hT]; exact hd
  · have ht : tw gp (l.drop (rrK3 l k)) = g.length := by rw [c4']; exact tw_app h5 (fun b hb => by injection hb with hb; subst hb; decide)
    have hk4 : rrK4 l k = rrK3 l k + g.length := by unfold rrK4 ruK; rw [x3, rs_zero, ht]
    have hd : l.drop (rrK4 l k) = 35 :: r' := by rw [hk4, ← List.drop_drop, c4']; simp
    have hT : rrT l k = true := by
      unfold rrT
      rw [x3, rs_zero, rs_zero, hd, ht, decide_eq_true (Nat.pos_of_ne_zero fun c => h6 (List.eq_nil_of_length_eq_zero c))]; rfl
    unfold rrK5
    rw [hT, if_pos rfl, x3, rs_zero, List.length_drop]
    exact List.drop_eq_nil_iff.2 (by omega)
theorem rr_else (l : List UInt8) (k : Nat) (hk : k = tw gp l) : rrE l k = 2 ∨ ∃ d1 d2, RwF l d1 d2 := by
  obtain ⟨g0, m0, e, h0, hm0, ht, hd0, _⟩ := tw_part gp l
  rw [← hk] at ht hd0
  have bad : rrE3 l k = 2 → rrE l k = 2 := fun h => by unfold rrE; rw [h]; exact en_two _ _
  rcases fg_cases l k (n := 13) (by decide) (by decide) with ⟨a1, a2⟩ | ⟨d1, m1, e1, f1, a1, a2, a3, a4⟩
  · left
    have k1 : rrK1 l k = k := a1
    have x1 : rrE1 l k = 2 := a2
    have k2 : rrK2 l k = k := by unfold rrK2; rw [k1, x1]; exact (ga_two l k).1
    have x2 : rrE2 l k = 2 := by unfold rrE2; rw [k1, x1]; exact (ga_two l k).2
    exact bad (by unfold rrE3; rw [k2, x2]; exact (fg_two l k 1 4).2)
  have k1 : rrK1 l k = k + d1.length := a1
  have x1 : rrE1 l k = 0 := a2
  rcases ga_part l (k + d1.length) with ⟨b1, b2⟩ | ⟨g1, m2, e2, g2, g3, g4, b1, b2, b3⟩
  · left
    have k2 : rrK2 l k = k + d1.length := by unfold rrK2; rw [k1, x1]; exact b1
    have x2 : rrE2 l k = 2 := by unfold rrE2; rw [k1, x1]; exact b2
    exact bad (by unfold rrE3; rw [k2, x2]; exact (fg_two l _ 1 4).2)
  have k2 : rrK2 l k = k + d1.length + g1.length := by unfold rrK2; rw [k1, x1]; exact b1
  have x2 : rrE2 l k = 0 := by unfold rrE2; rw [k1, x1]; exact b2
  rcases fg_cases l (k + d1.length + g1.length) (n := 4) (by decide) (by decide) with ⟨c1, c2⟩ | ⟨d2, m3, e3, f2, c1, c2, c3, c4⟩
  · exact .inl (bad (by unfold rrE3; rw [k2, x2]; exact c2))
  have k3 : rrK3 l k = k + d1.length + g1.length + d2.length := by unfold rrK3; rw [k2, x2]; exact c1
  have x3 : rrE3 l k = 0 := by unfold rrE3; rw [k2, x2]; exact c2
  have c4' : l.drop (rrK3 l k) = m3 := by rw [k3]; exact c4
  have form : Tl m3 → ∃ d1 d2, RwF l d1 d2 := fun h => ⟨d1, d2, g0, g1, m3, by
    have : m0 = d1 ++ m1 := by rw [← hd0]; exact e1
    rw [e, this, ← a4, e2, ← b3, e3], h0, f1, g2, g3, f2, h⟩
  unfold rrE
  rw [x3, en_zero]
  by_cases hz : l.drop (rrK5 l k) = []
  · right
    refine form ?_
    cases hT : rrT l k with
    | false =>
      unfold rrK5 at hz
      rw [hT, if_neg (by decide)] at hz
      left
      have := ru_end (l := l) (k := rrK3 l k) (by unfold rrK4 at hz; rw [x3] at hz; exact hz)
      rwa [c4'] at this
    | true =>
      right
      unfold rrT at hT
      rw [x3, rs_zero, rs_zero, c4'] at hT
      simp only [Bool.and_eq_true, decide_eq_true_eq, beq_iff_eq] at hT
      obtain ⟨g, m4, e4, h4, h5, h6, h7, _⟩ := tw_part gp m3
      have hk4 : rrK4 l k = rrK3 l k + g.length := by unfold rrK4 ruK; rw [x3, rs_zero, c4', h6]
      have hd : l.drop (rrK4 l k) = m4 := by rw [hk4, ← List.drop_drop, c4', ← h6, h7]
      rw [hd] at hT
      cases m4 with
      | nil => exact absurd hT.2 (by simp)
      | cons b r' =>
        obtain ⟨hT1, hT2⟩ := hT
        injection hT2 with hb
        subst hb
        exact ⟨g, r', e4, h4, fun c => by rw [h6, c] at hT1; exact absurd hT1 (by decide)⟩
  · left; rw [if_neg hz]
/-- The program's reader of rows finds what the document's does. -/
theorem rr_is (l : List UInt8) (k : Nat) (hk : k = tw gp l) : (rrE l k = 2 ∧ rwE l = 2) ∨ (rrE l k = 0 ∧ ∃ a b : Nat, rrA l k = (a : Int) ∧ rrB l k = (b : Int) ∧ a < 10 ^ 13 ∧ b < 10 ^ 4 ∧ rwE l = (if a % 86400 ≠ 0 then 1 else 0) ∧ (a % 86400 = 0 → rwA l = a ∧ rwO11 l = b)) := by
  by_cases h : ∃ d1 d2, RwF l d1 d2
  · obtain ⟨d1, d2, h⟩ := h
    obtain ⟨a, b, c⟩ := rr_yes h hk
    obtain ⟨x, y⟩ := rw_doc h
    obtain ⟨g0, g1, r, _, _, h1, _, _, h4, _⟩ := h
    have l1 := dv_lt h1.1
    have l2 := dv_lt h4.1
    have p1 : (10 : Nat) ^ d1.length ≤ 10 ^ 13 := Nat.pow_le_pow_right (by decide) h1.2.2
    have p2 : (10 : Nat) ^ d2.length ≤ 10 ^ 4 := Nat.pow_le_pow_right (by decide) h4.2.2
    exact .inr ⟨a, dv d1, dv d2, b, c, by omega, by omega, x, y⟩
  · rcases rr_else l k hk with a | a
    · rcases rw_else l with c | c
      · exact .inl ⟨a, c⟩
      · exact absurd c h
    · exact absurd a h

end Go.Proofs.YtdonicaiimeleaaGreatDoor
