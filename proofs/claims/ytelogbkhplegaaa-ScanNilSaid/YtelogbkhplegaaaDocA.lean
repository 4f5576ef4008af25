/- The document's scanner: alike, Rest, End, Fail, Take, Skip. -/
import Derived.Test.YtelogbkhplegaaaScanF
import Derived.Test.YtelogbkhplegaaaBigA
import Derived.RegionTactic
import Derived.ChangeAlike
import Derived.Deep.RegionWith
import Derived.Deep.DeepCutAuto
import Derived.Deep.CutRange
import Derived.Deep.CutBlock
namespace Go.Proofs.Ytelogbkhplegaaa
open Go.RowKit
set_option linter.unusedVariables false

/-- The document's scanner, as a value. -/
abbrev dm (s : ByteArray) (k : Nat) (e : Int) : Value := .agg #[.string s, .int .i64 (k : Int), .int .i64 e]
abbrev Td : TypeId := 31

set_option maxHeartbeats 800000 in
theorem alike_any (a b : UInt8) (w : World) :
    Calls Try.prog 57 #[.int .u8 (a.toNat : Int), .int .u8 (b.toNat : Int)] w fun x w' => x = .returned (.bool (al a b)) ∧ w = w' := by
  have ha := a.toNat_lt
  have hb := b.toNat_lt
  have hal : al a b = decide (lw a = lw b) := by unfold al; rw [Bool.eq_iff_iff]; simp
  obtain ⟨t, ht⟩ : ∃ t, t = al a b := ⟨_, rfl⟩
  rw [← ht]
  have HT : RowKit.Hid (t = decide (lw a = lw b)) := by rw [ht, hal]; exact rfl
  clear ht hal
  obtain ⟨x, hx⟩ : ∃ x : Int, x = (a.toNat : Int) := ⟨_, rfl⟩
  obtain ⟨y, hy⟩ : ∃ y : Int, y = (b.toNat : Int) := ⟨_, rfl⟩
  have HL : RowKit.Hid (lw a = if 65 ≤ x ∧ x ≤ 90 then x + 32 else x) := by rw [hx]; exact rfl
  have HM : RowKit.Hid (lw b = if 65 ≤ y ∧ y ≤ 90 then y + 32 else y) := by rw [hy]; exact rfl
  rw [← hx, ← hy]
  have hx0 : 0 ≤ x ∧ x < 256 := by omega
  have hy0 : 0 ≤ y ∧ y < 256 := by omega
  obtain ⟨hx1, hx2⟩ := hx0
  obtain ⟨hy1, hy2⟩ := hy0
  clear hx hy ha hb
  by_cases h1 : x = y
  · have ht : t = true := by rw [HT.out, HL.out, HM.out, h1]; simp
    subst ht
    subst h1
    clear HT HL HM
    go_enter Try.func57, Try.ntmps57
    go_wp2
    go_ret
    exact ⟨rfl, rfl⟩
  · have h1b : (x == y) = false := by simpa using h1
    by_cases h2 : 65 ≤ x
    · by_cases h3 : x ≤ 90
      · have hw : IntKind.u8.wrap (x + 32) = x + 32 := by simp [IntKind.wrap, IntKind.signed, IntKind.bits]; omega
        by_cases h4 : y = x + 32
        · have ht : t = true := by rw [HT.out, HL.out, HM.out]; simp; omega
          subst ht
          have h4b : (y == x + 32) = true := by simpa using h4
          have HH := Lib.hid h4
          clear HT HL HM h4 h1
          go_enter Try.func57, Try.ntmps57
          go_wp2
          go_ret
          exact ⟨rfl, rfl⟩
        · have h4b : (y == x + 32) = false := by simpa using h4
          by_cases h5 : 65 ≤ y
          · by_cases h6 : y ≤ 90
            · have hw2 : IntKind.u8.wrap (y + 32) = y + 32 := by simp [IntKind.wrap, IntKind.signed, IntKind.bits]; omega
              have h7b : (x == y + 32) = false := by simp; omega
              have ht : t = false := by rw [HT.out, HL.out, HM.out]; simp; omega
              subst ht
              clear HT HL HM h4 h1
              go_enter Try.func57, Try.ntmps57
              go_wp2
              go_ret
              exact ⟨rfl, rfl⟩
            · have ht : t = false := by rw [HT.out, HL.out, HM.out]; simp; omega
              subst ht
              clear HT HL HM h4 h1
              go_enter Try.func57, Try.ntmps57
              go_wp2
              go_ret
              exact ⟨rfl, rfl⟩
          · have ht : t = false := by rw [HT.out, HL.out, HM.out]; simp; omega
            subst ht
            clear HT HL HM h4 h1
            go_enter Try.func57, Try.ntmps57
            go_wp2
            go_ret
            exact ⟨rfl, rfl⟩
      · by_cases h5 : 65 ≤ y
        · by_cases h6 : y ≤ 90
          · have hw2 : IntKind.u8.wrap (y + 32) = y + 32 := by simp [IntKind.wrap, IntKind.signed, IntKind.bits]; omega
            by_cases h7 : x = y + 32
            · have ht : t = true := by rw [HT.out, HL.out, HM.out]; simp; omega
              subst ht
              have h7b : (x == y + 32) = true := by simpa using h7
              have HH := Lib.hid h7
              clear HT HL HM h7 h1
              go_enter Try.func57, Try.ntmps57
              go_wp2
              go_ret
              exact ⟨rfl, rfl⟩
            · have h7b : (x == y + 32) = false := by simpa using h7
              have ht : t = false := by rw [HT.out, HL.out, HM.out]; simp; omega
              subst ht
              clear HT HL HM h7 h1
              go_enter Try.func57, Try.ntmps57
              go_wp2
              go_ret
              exact ⟨rfl, rfl⟩
          · have ht : t = false := by rw [HT.out, HL.out, HM.out]; simp; omega
            subst ht
            clear HT HL HM h1
            go_enter Try.func57, Try.ntmps57
            go_wp2
            go_ret
            exact ⟨rfl, rfl⟩
        · have ht : t = false := by rw [HT.out, HL.out, HM.out]; simp; omega
          subst ht
          clear HT HL HM h1
          go_enter Try.func57, Try.ntmps57
          go_wp2
          go_ret
          exact ⟨rfl, rfl⟩
    · by_cases h5 : 65 ≤ y
      · by_cases h6 : y ≤ 90
        · have hw2 : IntKind.u8.wrap (y + 32) = y + 32 := by simp [IntKind.wrap, IntKind.signed, IntKind.bits]; omega
          have h7b : (x == y + 32) = false := by simp; omega
          have ht : t = false := by rw [HT.out, HL.out, HM.out]; simp; omega
          subst ht
          clear HT HL HM h1
          go_enter Try.func57, Try.ntmps57
          go_wp2
          go_ret
          exact ⟨rfl, rfl⟩
        · have ht : t = false := by rw [HT.out, HL.out, HM.out]; simp; omega
          subst ht
          clear HT HL HM h1
          go_enter Try.func57, Try.ntmps57
          go_wp2
          go_ret
          exact ⟨rfl, rfl⟩
      · have ht : t = false := by rw [HT.out, HL.out, HM.out]; simp; omega
        subst ht
        clear HT HL HM h1
        go_enter Try.func57, Try.ntmps57
        go_wp2
        go_ret
        exact ⟨rfl, rfl⟩

/-- What is left, as a string. -/
def rsS (s : ByteArray) (k : Nat) (e : Int) : ByteArray := ⟨(rs s.data.toList k e).toArray⟩
theorem rsS_size (s : ByteArray) (k : Nat) (e : Int) : (rsS s k e).size = (rs s.data.toList k e).length := Lib.size_mk _
theorem rsS_list (s : ByteArray) (k : Nat) (e : Int) : (rsS s k e).data.toList = rs s.data.toList k e := rfl
theorem rsS_zero (s : ByteArray) (k : Nat) : rsS s k 0 = s.extract k s.size := by
  have : (s.extract k s.size).data.toList = s.data.toList.drop k := by
    rw [Lib.extract_data, List.take_of_length_le (by simp)]
  unfold rsS
  rw [rs_zero, ← this]
theorem rest_any (s : ByteArray) (k : Nat) (e : Int) (w : World) (hk : k ≤ s.size) (hs : s.size ≤ 1000) :
    Calls Try.prog 29 #[dm s k e] w fun x w' => x = .returned (.string (rsS s k e)) ∧ Below w.heap.size w w' := by
  by_cases h0 : e = 0
  · subst h0
    have HR := Lib.hid (rsS_zero s k)
    have hz : ((0 : Int) != 0) = false := rfl
    go_enter Try.func29, Try.ntmps29
    go_wp2
    go_ret
    exact ⟨ret1_eq (by rw [HR.out]; rfl), (Below.refl _ _).alloc (Nat.le_refl _) _⟩
  · have HR : RowKit.Hid (rsS s k e = ⟨#[]⟩) := by unfold rsS; rw [rs_bad _ _ h0]; exact rfl
    have hz : (e != 0) = true := bne_iff_ne.mpr h0
    clear h0
    go_enter Try.func29, Try.ntmps29
    go_wp2
    go_ret
    exact ⟨ret1_eq (by rw [HR.out]; rfl), (Below.refl _ _).alloc (Nat.le_refl _) _⟩
theorem below_two (w : World) (o o' : Obj) : Below w.heap.size w ((w.alloc o).alloc o') := ((Below.refl _ _).alloc (Nat.le_refl _) _).alloc (by simp) _
theorem fail_d (s : ByteArray) (k : Nat) (e b : Int) (w : World) :
    Calls Try.prog 37 #[dm s k e, .int .i64 b] w fun x w' => x = .returned (dm s k (flE e b)) ∧ Below w.heap.size w w' := by
  by_cases h0 : e = 0
  · subst h0
    rw [fl_zero]
    have hz : ((0 : Int) == 0) = true := rfl
    go_enter Try.func37, Try.ntmps37
    go_wp2
    refine bodyPost_ret (v := dm s k b) (by simp [results, Try.results37, go_sem]) rfl ⟨rfl, below_two _ _ _⟩
  · rw [fl_bad _ h0]
    have hz : (e == 0) = false := by simpa using h0
    clear h0
    go_enter Try.func37, Try.ntmps37
    go_wp2
    refine bodyPost_ret (v := dm s k e) (by simp [results, Try.results37, go_sem]) rfl ⟨rfl, below_two _ _ _⟩
theorem end_d (s : ByteArray) (k : Nat) (e : Int) (w : World) (hs : s.size ≤ 1000) :
    Calls Try.prog 31 #[dm s k e] w fun x w' => x = .returned (.int .i64 (enE s.data.toList k e)) ∧ Below w.heap.size w w' := by
  by_cases h0 : e = 0
  · subst h0
    have hz : ((0 : Int) == 0) = true := rfl
    by_cases hlt : k < s.size
    · have HR : RowKit.Hid (enE s.data.toList k 0 = 2) := by unfold enE; rw [if_pos ⟨rfl, by simpa using hlt⟩]; exact rfl
      have hlt' : decide ((k : Int) < (s.size : Int)) = true := by simpa using hlt
      have hlt2 : decide (k < s.size) = true := by simpa using hlt
      go_enter Try.func31, Try.ntmps31
      go_wp2
      go_ret
      exact ⟨ret1_eq (by rw [HR.out]; rfl), (Below.refl _ _).alloc (Nat.le_refl _) _⟩
    · have HR : RowKit.Hid (enE s.data.toList k 0 = 0) := by unfold enE; rw [if_neg (by simp; omega)]; exact rfl
      have hlt' : decide ((k : Int) < (s.size : Int)) = false := by simpa using hlt
      have hlt2 : decide (k < s.size) = false := by simpa using hlt
      go_enter Try.func31, Try.ntmps31
      go_wp2
      go_ret
      exact ⟨ret1_eq (by rw [HR.out]; rfl), (Below.refl _ _).alloc (Nat.le_refl _) _⟩
  · have HR : RowKit.Hid (enE s.data.toList k e = e) := by unfold enE; rw [if_neg (fun h => h0 h.1)]; exact rfl
    have hz : (e == 0) = false := by simpa using h0
    clear h0
    go_enter Try.func31, Try.ntmps31
    go_wp2
    go_ret
    exact ⟨ret1_eq (by rw [HR.out]; rfl), (Below.refl _ _).alloc (Nat.le_refl _) _⟩

/-- The scanner's block, the document's. -/
def Dk (w : World) (p : Nat) (s : ByteArray) (k : Nat) (e : Int) : Prop := w.heap[p]? = some (.cells #[.string s, .int .i64 (k : Int), .int .i64 e] Td (0, 0))
theorem Dk.c0 {w : World} {p : Nat} {s : ByteArray} {k : Nat} {e : Int} (h : Dk w p s k e) : w.cell? ⟨p, 0, none⟩ = some (.string s) := whole_cell h 0
theorem Dk.c1 {w : World} {p : Nat} {s : ByteArray} {k : Nat} {e : Int} (h : Dk w p s k e) : w.cell? ⟨p, 1, none⟩ = some (.int .i64 (k : Int)) := whole_cell h 1
theorem Dk.c2 {w : World} {p : Nat} {s : ByteArray} {k : Nat} {e : Int} (h : Dk w p s k e) : w.cell? ⟨p, 2, none⟩ = some (.int .i64 e) := whole_cell h 2
theorem Dk.free {w : World} {p : Nat} {s : ByteArray} {k : Nat} {e : Int} (h : Dk w p s k e) (i : Nat) : w.frozen? ⟨p, i, none⟩ = false := whole_free h i
theorem Dk.lt {w : World} {p : Nat} {s : ByteArray} {k : Nat} {e : Int} (h : Dk w p s k e) : p < w.heap.size := whole_lt h
theorem Dk.below {w w' : World} {p B : Nat} {s : ByteArray} {k : Nat} {e : Int} (h : Dk w p s k e) (hb : Below B w w') (hB : p < B) : Dk w' p s k e := (hb.block p hB).trans h
/-- The two blocks that each of the document's acts makes: its argument's, its result's. -/
theorem two (w : World) (s : ByteArray) (k : Nat) (e : Int) : Dk ((w.alloc (.cells #[.string s, .int .i64 (k : Int), .int .i64 e] Td)).alloc (.cells #[.string ⟨#[]⟩, .int .i64 0, .int .i64 0] Td)) w.heap.size s k e ∧
    Dk ((w.alloc (.cells #[.string s, .int .i64 (k : Int), .int .i64 e] Td)).alloc (.cells #[.string ⟨#[]⟩, .int .i64 0, .int .i64 0] Td)) (w.heap.size + 1) ⟨#[]⟩ 0 0 :=
  ⟨(Below.heap_alloc _ _ _ (by simp)).trans (heap_alloc_new w _), by
    have := heap_alloc_new (w.alloc (.cells #[.string s, .int .i64 (k : Int), .int .i64 e] Td)) (.cells #[.string ⟨#[]⟩, .int .i64 0, .int .i64 0] Td)
    rw [World.size_alloc] at this
    exact this⟩
/-- The result's block, stored into, is of the call's own. -/
theorem below_put {w W : World} {q : Nat} (h : Below w.heap.size w W) (hq : w.heap.size ≤ q) (x y z : Value) : Below w.heap.size w (((W.setCell ⟨q, 0, none⟩ x).setCell ⟨q, 1, none⟩ y).setCell ⟨q, 2, none⟩ z) :=
  ((h.setCell hq _).setCell hq _).setCell hq _
theorem below_set1 {w W : World} {p : Nat} (h : Below w.heap.size w W) (hp : w.heap.size ≤ p) (i : Nat) (x : Value) : Below w.heap.size w (W.setCell ⟨p, i, none⟩ x) := h.setCell hp _
theorem Dk.set1 {w : World} {p : Nat} {s : ByteArray} {k : Nat} {e : Int} (h : Dk w p s k e) (j : Nat) {z : Int} (hz : z = (j : Int)) : Dk (w.setCell ⟨p, 1, none⟩ (.int .i64 z)) p s j e := by
  subst hz; unfold Dk at h ⊢; simp [World.setCell, Array.getElem?_modify, h]
theorem Dk.set2 {w : World} {p : Nat} {s : ByteArray} {k : Nat} {e : Int} (h : Dk w p s k e) (f : Int) : Dk (w.setCell ⟨p, 2, none⟩ (.int .i64 f)) p s k f := by
  unfold Dk at h ⊢; simp [World.setCell, Array.getElem?_modify, h]
theorem Dk.far {w : World} {p q : Nat} {s : ByteArray} {k : Nat} {e : Int} (h : Dk w q s k e) (hne : p ≠ q) (i : Nat) (x : Value) : Dk (w.setCell ⟨p, i, none⟩ x) q s k e := by
  unfold Dk at *
  rw [Below.heap_setCell _ _ _ _ (by show q ≠ p; omega)]; exact h
set_option maxHeartbeats 800000 in
theorem take_d (s : ByteArray) (k : Nat) (e : Int) (b : UInt8) (w : World) (hk : k ≤ s.size) (hs : s.size ≤ 1000) :
    Calls Try.prog 32 #[dm s k e, .int .u8 (b.toNat : Int)] w fun x w' =>
      x = .returned (.tuple #[.bool ((rs s.data.toList k e).head? == some b), dm s (if (rs s.data.toList k e).head? = some b then k + 1 else k) e]) ∧ Below w.heap.size w w' := by
  have HC := fun W => rest_any s k e W hk hs
  cases hq : rs s.data.toList k e with
  | nil =>
    have hR : (rsS s k e) = ⟨#[]⟩ := by unfold rsS; rw [hq]
    rw [hR] at HC
    have HCH := Lib.hid HC
    have h1 : (([] : List UInt8).head? == some b) = false := rfl
    have h2 : ¬ (([] : List UInt8).head? = some b) := by simp
    rw [h1, if_neg h2]
    clear HC hq hR h1 h2
    go_enter Try.func32, Try.ntmps32
    go_wp2_with fail
    obtain ⟨hp0, hq0⟩ := two w s k e
    have hb0 := below_two w (.cells #[.string s, .int .i64 (k : Int), .int .i64 e] Td) (.cells #[.string ⟨#[]⟩, .int .i64 0, .int .i64 0] Td)
    generalize hW0 : World.alloc (World.alloc w _) _ = W0 at hp0 hq0 hb0 ⊢
    clear hW0
    obtain ⟨q, hq⟩ : ∃ q, q = w.heap.size + 1 := ⟨_, rfl⟩
    obtain ⟨p, hp⟩ : ∃ p, p = w.heap.size := ⟨_, rfl⟩
    rw [← hq] at hq0 ⊢
    rw [← hp] at hp0 ⊢
    have HPW : RowKit.Hid (w.heap.size ≤ p) := by rw [hp]; exact Nat.le_refl _
    have HQW : RowKit.Hid (w.heap.size ≤ q) := by rw [hq]; exact Nat.le_succ _
    have hpq : p ≠ q := by omega
    have HPQ := Lib.hid hpq
    have P0 := Lib.hid hp0; have Q0 := Lib.hid hq0; have B0 := Lib.hid hb0
    clear hp0 hq0 hb0 hq hp hpq
    refine (HCH.out W0).mono ?_
    rintro x W1 ⟨rfl, hb⟩
    have P1 := Lib.hid (P0.out.below hb P0.out.lt)
    have Q1 := Lib.hid (Q0.out.below hb Q0.out.lt)
    have B1 := Lib.hid (B0.out.trans (hb.mono B0.out.size))
    clear hb P0 Q0 B0
    have p0 := P1.out.c0; have p1 := P1.out.c1; have p2 := P1.out.c2
    have q0 := Q1.out.c0; have q1 := Q1.out.c1; have q2 := Q1.out.c2
    have f0 := Q1.out.free 0; have f1 := Q1.out.free 1; have f2 := Q1.out.free 2
    have fp1 := P1.out.free 1; have fp2 := P1.out.free 2
    go_wp2
    go_region
    go_wp2
    refine bodyPost_ret (v := .tuple #[.bool false, dm s k e]) (by simp [results, Try.results32, go_sem, q0, q1, q2]) rfl ⟨rfl, (below_put B1.out HQW.out _ _ _).drew⟩
  | cons a r =>
    have hR : (rsS s k e).data.toList = a :: r := by rw [rsS_list, hq]
    have hlt : k + 1 ≤ s.size := by
      have := rs_le s.data.toList k e
      rw [hq] at this
      have h2 : s.data.toList.length = s.size := by simp
      simp at this; omega
    obtain ⟨R, hR2⟩ : ∃ R, R = rsS s k e := ⟨_, rfl⟩
    rw [← hR2] at HC hR
    have hRs : 0 < R.size := by
      have : R.data.toList.length = R.size := by simp
      rw [hR] at this; simp at this; omega
    have hR0 : R[0] = a := by
      have : R.data.toList[0]'(by simp; exact hRs) = a := by simp only [hR, List.getElem_cons_zero]
      exact this
    have hne : ((R.size : Int) == 0) = false := beq_eq_false_iff_ne.2 (by omega)
    have HCH := Lib.hid HC
    have H0 := Lib.hid hR0
    clear HC hq hR hR2 hR0
    by_cases hab : a = b
    · subst hab
      have h1 : ((a :: r).head? == some a) = true := by simp
      have h2 : (a :: r).head? = some a := rfl
      rw [h1, if_pos h2]
      have hx : ((R[0].toNat : Int) != (a.toNat : Int)) = false := by rw [H0.out]; simp
      clear h1 h2
      go_enter Try.func32, Try.ntmps32
      go_wp2_with fail
      obtain ⟨hp0, hq0⟩ := two w s k e
      have hb0 := below_two w (.cells #[.string s, .int .i64 (k : Int), .int .i64 e] Td) (.cells #[.string ⟨#[]⟩, .int .i64 0, .int .i64 0] Td)
      generalize hW0 : World.alloc (World.alloc w _) _ = W0 at hp0 hq0 hb0 ⊢
      clear hW0
      obtain ⟨q, hq⟩ : ∃ q, q = w.heap.size + 1 := ⟨_, rfl⟩
      obtain ⟨p, hp⟩ : ∃ p, p = w.heap.size := ⟨_, rfl⟩
      rw [← hq] at hq0 ⊢
      rw [← hp] at hp0 ⊢
      have HPW : RowKit.Hid (w.heap.size ≤ p) := by rw [hp]; exact Nat.le_refl _
      have HQW : RowKit.Hid (w.heap.size ≤ q) := by rw [hq]; exact Nat.le_succ _
      have hpq : p ≠ q := by omega
      have HPQ := Lib.hid hpq
      have P0 := Lib.hid hp0; have Q0 := Lib.hid hq0; have B0 := Lib.hid hb0
      clear hp0 hq0 hb0 hq hp hpq
      refine (HCH.out W0).mono ?_
      rintro x W1 ⟨rfl, hb⟩
      have P1 := Lib.hid (P0.out.below hb P0.out.lt)
      have Q1 := Lib.hid (Q0.out.below hb Q0.out.lt)
      have B1 := Lib.hid (B0.out.trans (hb.mono B0.out.size))
      clear hb P0 Q0 B0
      have p0 := P1.out.c0; have p1 := P1.out.c1; have p2 := P1.out.c2
      have q0 := Q1.out.c0; have q1 := Q1.out.c1; have q2 := Q1.out.c2
      have f0 := Q1.out.free 0; have f1 := Q1.out.free 1; have f2 := Q1.out.free 2
      have fp1 := P1.out.free 1; have fp2 := P1.out.free 2
      go_upto_region 5 with fail
      have hp2 := P1.out.set1 (k + 1) (z := (k : Int) + 1) (by omega)
      have hq2 := Q1.out.far HPQ.out 1 (.int .i64 ((k : Int) + 1))
      have hb2 := below_set1 B1.out HPW.out 1 (.int .i64 ((k : Int) + 1))
      generalize hW2 : World.setCell W1 _ _ = W2 at hp2 hq2 hb2 ⊢
      have P2 := Lib.hid hp2; have Q2 := Lib.hid hq2; have B2 := Lib.hid hb2
      clear hW2 hp2 hq2 hb2 p0 p1 p2 q0 q1 q2 f0 f1 f2 fp1 fp2
      have p0 := P2.out.c0; have p1 := P2.out.c1; have p2 := P2.out.c2
      have q0 := Q2.out.c0; have q1 := Q2.out.c1; have q2 := Q2.out.c2
      have f0 := Q2.out.free 0; have f1 := Q2.out.free 1; have f2 := Q2.out.free 2
      have fp1 := P2.out.free 1; have fp2 := P2.out.free 2
      go_wp2
      go_region
      go_wp2
      refine bodyPost_ret (v := .tuple #[.bool true, dm s (k + 1) e]) (by simp [results, Try.results32, go_sem, q0, q1, q2]) rfl ⟨rfl, (below_put B2.out HQW.out _ _ _).drew⟩
    · have h1 : ((a :: r).head? == some b) = false := by simpa using hab
      have h2 : ¬ ((a :: r).head? = some b) := by simpa using hab
      rw [h1, if_neg h2]
      have hx : ((R[0].toNat : Int) != (b.toNat : Int)) = true := by
        rw [H0.out, bne_iff_ne]
        intro h3
        exact hab (UInt8.toNat_inj.1 (by omega))
      clear h1 h2 hab
      go_enter Try.func32, Try.ntmps32
      go_wp2_with fail
      obtain ⟨hp0, hq0⟩ := two w s k e
      have hb0 := below_two w (.cells #[.string s, .int .i64 (k : Int), .int .i64 e] Td) (.cells #[.string ⟨#[]⟩, .int .i64 0, .int .i64 0] Td)
      generalize hW0 : World.alloc (World.alloc w _) _ = W0 at hp0 hq0 hb0 ⊢
      clear hW0
      obtain ⟨q, hq⟩ : ∃ q, q = w.heap.size + 1 := ⟨_, rfl⟩
      obtain ⟨p, hp⟩ : ∃ p, p = w.heap.size := ⟨_, rfl⟩
      rw [← hq] at hq0 ⊢
      rw [← hp] at hp0 ⊢
      have HPW : RowKit.Hid (w.heap.size ≤ p) := by rw [hp]; exact Nat.le_refl _
      have HQW : RowKit.Hid (w.heap.size ≤ q) := by rw [hq]; exact Nat.le_succ _
      have hpq : p ≠ q := by omega
      have HPQ := Lib.hid hpq
      have P0 := Lib.hid hp0; have Q0 := Lib.hid hq0; have B0 := Lib.hid hb0
      clear hp0 hq0 hb0 hq hp hpq
      refine (HCH.out W0).mono ?_
      rintro x W1 ⟨rfl, hb⟩
      have P1 := Lib.hid (P0.out.below hb P0.out.lt)
      have Q1 := Lib.hid (Q0.out.below hb Q0.out.lt)
      have B1 := Lib.hid (B0.out.trans (hb.mono B0.out.size))
      clear hb P0 Q0 B0
      have p0 := P1.out.c0; have p1 := P1.out.c1; have p2 := P1.out.c2
      have q0 := Q1.out.c0; have q1 := Q1.out.c1; have q2 := Q1.out.c2
      have f0 := Q1.out.free 0; have f1 := Q1.out.free 1; have f2 := Q1.out.free 2
      have fp1 := P1.out.free 1; have fp2 := P1.out.free 2
      go_wp2
      go_region
      go_wp2
      refine bodyPost_ret (v := .tuple #[.bool false, dm s k e]) (by simp [results, Try.results32, go_sem, q0, q1, q2]) rfl ⟨rfl, (below_put B1.out HQW.out _ _ _).drew⟩
end Go.Proofs.Ytelogbkhplegaaa
