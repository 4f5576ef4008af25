/- Merged: ListJ, ListK. -/
import Derived.Test.YtdonicaiimeleaaGreatDoorGListParses16
namespace Go.Proofs.YtdonicaiimeleaaGreatDoor
open Go.RowKit Go.WideShapes Go.ChangeShapes
set_option linter.unusedVariables false
set_option linter.unusedSimpArgs false

theorem Os.set11 {w : World} {base g i : Nat} {v u : Value} {ls : List (List UInt8)} (h : Os w base v ls) (hg : g < base) : Os (w.setCell ⟨g, i, none⟩ u) base v ls := by
  refine ⟨h.1, ?_⟩
  rcases h.2 with h0 | ⟨g', cap, cur, h1, h2, h3, h4⟩
  · exact .inl h0
  · refine .inr ⟨g', cap, cur, h1, h2, ?_, h4⟩
    have hne : g ≠ g' := by omega
    simp [World.setCell, Array.getElem?_modify, h3, hne]
theorem Os.five {w : World} {base : Nat} {v : Value} {ls : List (List UInt8)} (h : Os w base v ls) (h5 : ls.length = 5) : ∃ g c, v = .slice (some ⟨g, 0, none⟩) 5 c := by
  rcases h.2 with ⟨hv, hn⟩ | ⟨g, cap, cur, hv, -⟩
  · omega
  · exact ⟨g, cap, by rw [hv, h5]⟩
theorem Os.cell {w : World} {base g n c : Nat} {ls : List (List UInt8)} (h : Os w base (.slice (some ⟨g, 0, none⟩) n c) ls) {j : Nat} {l : List UInt8} (hj : ls[j]? = some l) : w.cell? ⟨g, j, none⟩ = some (sv l) := by
  obtain ⟨A, c', e, hr, -⟩ := h.reads
  injection e with e1 e2 e3
  subst e1
  rcases hr with h0 | ⟨b, off, h1, h2, h3⟩
  · rw [h0] at hj; simp at hj
  · injection h1 with h1
    injection h1 with h1 h4
    subst h1; subst h4
    simpa using h3 j l hj
/-- A digest's line: its error, and its words' numbers. -/
def suE (ls : List (List UInt8)) : Int := if ls.all hxB = true then 0 else 2
def suN (ls : List (List UInt8)) (i : Nat) : Nat := ((ls[i]?).map hxN).getD 0
/-- Place i, where K words are read. -/
def sw (i K a : Nat) (x : Int) : Int := if i < K then (a : Int) else x

set_option maxRecDepth 100000 in
set_option maxHeartbeats 16000000 in
theorem one_sumyes (A : Option Addr) (n c : Nat) (u e m h x0 x1 x2 x3 x4 f k : Int) (t : ByteArray) (w : World) (ht : t.size ≤ 100000) (hw : wdL t.data.toList ≠ []) (h2 : 2 ≤ t.size) (hq0 : ((t.extract 0 2).toList == [35, 36]) = false) (hq1 : ((t.extract 0 2).toList == [35, 64]) = false) (hq2 : ((t.extract 0 2).toList == [35, 104]) = true) (hgp : gpL (t.data.toList.drop 2) = true) (h5 : (wdL (t.data.toList.drop 2)).length = 5) (hsz : ∀ v ∈ wdL (t.data.toList.drop 2), v.length ≤ 100000) :
    Calls Tryz.prog 17 #[.agg (rc13 (.slice A n c) u e m h 0 x0 x1 x2 x3 x4 f k), .string t] w fun x w' => ∃ y0 y1 y2 y3 y4, x = .returned (.tuple #[.agg (rc13 (.slice A n c) u e m h 1 y0 y1 y2 y3 y4 f k), .int .i64 (suE (wdL (t.data.toList.drop 2)))]) ∧ (suE (wdL (t.data.toList.drop 2)) = 0 → y0 = (suN (wdL (t.data.toList.drop 2)) 0 : Nat) ∧ y1 = (suN (wdL (t.data.toList.drop 2)) 1 : Nat) ∧ y2 = (suN (wdL (t.data.toList.drop 2)) 2 : Nat) ∧ y3 = (suN (wdL (t.data.toList.drop 2)) 3 : Nat) ∧ y4 = (suN (wdL (t.data.toList.drop 2)) 4 : Nat)) ∧ Below w.heap.size w w' := by
  obtain ⟨W1, hW1, b1, g1, z1⟩ := two13 w (.slice A n c) u e m h 0 x0 x1 x2 x3 x4 f k
  have HW := Lib.hid (words_any11 t W1 ht)
  have hlen : (wdL t.data.toList).length ≠ 0 := fun e => hw (List.eq_nil_of_length_eq_zero e)
  have B1 := Lib.hid b1; have G1 := Lib.hid g1; have Z1 := Lib.hid z1
  obtain ⟨n9, hn9⟩ : ∃ n9, (wdL t.data.toList).length = n9 := ⟨_, rfl⟩
  have H9 := Lib.hid hn9
  have hz9 : ¬ (n9 : Int) = 0 := by omega
  have hz2 : (t.size : Int) > 1 := by omega
  have hz3 : (2 : Int) ≤ (t.size : Int) := by omega
  clear hw b1 g1 z1 hlen hn9
  have HX := Lib.hid (fun w => words_any11 (t.extract 2 t.size) w (by rw [ByteArray.size_extract]; omega))
  have HG := Lib.hid (fun w => gap_any (t.extract 2 t.size) w (by rw [ByteArray.size_extract]; omega))
  rw [rest_is] at HX HG
  rw [hgp] at HG
  generalize wdL (t.data.toList.drop 2) = ls at *
  obtain ⟨u0, u1, u2, u3, u4, rfl⟩ : ∃ u0 u1 u2 u3 u4, ls = [u0, u1, u2, u3, u4] := by
    match ls, h5 with
    | [u0, u1, u2, u3, u4], _ => exact ⟨u0, u1, u2, u3, u4, rfl⟩
  have HE : Hid (suE [u0, u1, u2, u3, u4] = if (hxB u0 && (hxB u1 && (hxB u2 && (hxB u3 && hxB u4)))) = true then 0 else 2) := Lib.hid (by simp [suE])
  have N0 : Hid (suN [u0, u1, u2, u3, u4] 0 = hxN u0) := Lib.hid rfl
  have H0 : Hid (∀ w, Calls Tryz.prog 37 #[.string ⟨u0.toArray⟩] w fun x w' => x = .returned (.tuple #[.int .u32 (hxN u0 : Nat), .bool (hxB u0)]) ∧ w = w') := Lib.hid (fun w => hex11_any ⟨u0.toArray⟩ w (by rw [Lib.size_mk]; exact hsz u0 (by simp)))
  have N1 : Hid (suN [u0, u1, u2, u3, u4] 1 = hxN u1) := Lib.hid rfl
  have H1 : Hid (∀ w, Calls Tryz.prog 37 #[.string ⟨u1.toArray⟩] w fun x w' => x = .returned (.tuple #[.int .u32 (hxN u1 : Nat), .bool (hxB u1)]) ∧ w = w') := Lib.hid (fun w => hex11_any ⟨u1.toArray⟩ w (by rw [Lib.size_mk]; exact hsz u1 (by simp)))
  have N2 : Hid (suN [u0, u1, u2, u3, u4] 2 = hxN u2) := Lib.hid rfl
  have H2 : Hid (∀ w, Calls Tryz.prog 37 #[.string ⟨u2.toArray⟩] w fun x w' => x = .returned (.tuple #[.int .u32 (hxN u2 : Nat), .bool (hxB u2)]) ∧ w = w') := Lib.hid (fun w => hex11_any ⟨u2.toArray⟩ w (by rw [Lib.size_mk]; exact hsz u2 (by simp)))
  have N3 : Hid (suN [u0, u1, u2, u3, u4] 3 = hxN u3) := Lib.hid rfl
  have H3 : Hid (∀ w, Calls Tryz.prog 37 #[.string ⟨u3.toArray⟩] w fun x w' => x = .returned (.tuple #[.int .u32 (hxN u3 : Nat), .bool (hxB u3)]) ∧ w = w') := Lib.hid (fun w => hex11_any ⟨u3.toArray⟩ w (by rw [Lib.size_mk]; exact hsz u3 (by simp)))
  have N4 : Hid (suN [u0, u1, u2, u3, u4] 4 = hxN u4) := Lib.hid rfl
  have H4 : Hid (∀ w, Calls Tryz.prog 37 #[.string ⟨u4.toArray⟩] w fun x w' => x = .returned (.tuple #[.int .u32 (hxN u4 : Nat), .bool (hxB u4)]) ∧ w = w') := Lib.hid (fun w => hex11_any ⟨u4.toArray⟩ w (by rw [Lib.size_mk]; exact hsz u4 (by simp)))
  generalize hxN u0 = a0 at *
  generalize hxB u0 = g0 at *
  generalize hxN u1 = a1 at *
  generalize hxB u1 = g1 at *
  generalize hxN u2 = a2 at *
  generalize hxB u2 = g2 at *
  generalize hxN u3 = a3 at *
  generalize hxB u3 = g3 at *
  generalize hxN u4 = a4 at *
  generalize hxB u4 = g4 at *
  have HL5 := Lib.hid h5
  clear h2 hgp h5 hsz
  go_enter Tryz.func17, Tryz.ntmps17
  go_upto_region 1 with fail
  rw [← hW1]
  clear hW1
  go_upto_region 23 with (go_at_call 34; refine HW.out.mono ?_; rintro e w1 ⟨v, rfl, hv, hb⟩; obtain ⟨A9, c9, rfl, -, -⟩ := hv.reads; rw [H9.out]; have B2 := Lib.hid (B1.out.trans (hb.mono B1.out.size)); have G2 := Lib.hid (G1.out.keep hb); have Z2 := Lib.hid (Z1.out.keep hb); clear hb hv HW)
  go_upto_region 24 with (go_at_call 34; refine (HX.out _).mono ?_; rintro e w2 ⟨v2, rfl, hv2, hb⟩; obtain ⟨g, cq, rfl⟩ := hv2.five HL5.out; have O3 := Lib.hid hv2; have lw : w.heap.size < w1.heap.size := bk_lt G2.out; have B3 := Lib.hid (B2.out.trans (hb.mono B2.out.size)); have G3 := Lib.hid (G2.out.keep hb); have Z3 := Lib.hid (Z2.out.keep hb); clear hb hv2 HX)
  obtain ⟨c0, c1, c2, c3, c4, c5, c6, c7, c8, c9, c10, c11, c12⟩ := G3.out.all
  obtain ⟨p0, p1, p2, p3, p4, p5, p6, p7, p8, p9, p10, p11, p12⟩ := G3.out.frees
  have hne : w.heap.size ≠ w.heap.size + 1 := by omega
  have G4 : Hid (B13 (w2.setCell ⟨w.heap.size, 5, none⟩ (.int .i64 1)) w.heap.size (rc13 (.slice A n c) u e m h 1 x0 x1 x2 x3 x4 f k)) := Lib.hid (bk_set G3.out 5 (.int .i64 1))
  have Z4 := Lib.hid (Z3.out.far (i := 5) (v := .int .i64 1) hne)
  have O4 := Lib.hid (O3.out.set11 (i := 5) (u := .int .i64 1) lw)
  have B4 := Lib.hid (B3.out.setCell (p := ⟨w.heap.size, 5, none⟩) (Nat.le_refl _) (.int .i64 1))
  have HNE := Lib.hid hne
  have LW := Lib.hid lw
  clear hne lw
  go_wp2_with (go_at_call 36; refine (HG.out _).mono ?_; rintro e w4 ⟨rfl, rfl⟩)
  go_loopg [13] 5 (fun gg s13 wr => ∃ (K : Nat), K ≤ 5 ∧ 5 - K ≤ gg ∧ s13 = .int .i64 K ∧ Hid (Below w.heap.size w wr) ∧ Hid (B13 wr w.heap.size (rc13 (.slice A n c) u e m h 1 (sw 0 K a0 x0) (sw 1 K a1 x1) (sw 2 K a2 x2) (sw 3 K a3 x3) (sw 4 K a4 x4) f k)) ∧ Hid (B13 wr (w.heap.size + 1) (rc13 (.slice none 0 0) 0 0 0 0 0 0 0 0 0 0 0 0)) ∧ Hid (Os wr w1.heap.size (.slice (some ⟨g, 0, none⟩) 5 cq) [u0, u1, u2, u3, u4]) ∧ Hid ((0 < K → g0 = true) ∧ (1 < K → g1 = true) ∧ (2 < K → g2 = true) ∧ (3 < K → g3 = true) ∧ (4 < K → g4 = true)))
  case atStart => exact ⟨0, by omega, by omega, rfl, B4, G4, Z4, O4, Lib.hid (by refine ⟨?_, ?_, ?_, ?_, ?_⟩ <;> intro h <;> omega)⟩
  case round =>
    clear B4 G4 Z4 O4 c0 c1 c2 c3 c4 c5 c6 c7 c8 c9 c10 c11 c12 p0 p1 p2 p3 p4 p5 p6 p7 p8 p9 p10 p11 p12
    obtain ⟨K, hK, hgg, rfl, B5, G5, Z5, O5, T5⟩ := hrel
    obtain ⟨d0, d1, d2, d3, d4, d5, d6, d7, d8, d9, d10, d11, d12⟩ := Z5.out.all
    obtain ⟨f0, f1, f2, f3, f4, f5, f6, f7, f8, f9, f10, f11, f12⟩ := Z5.out.frees
    rcases (by omega : K = 0 ∨ K = 1 ∨ K = 2 ∨ K = 3 ∨ K = 4 ∨ K = 5) with rfl | rfl | rfl | rfl | rfl | rfl
    · have C5 : wr.cell? ⟨g, 0, none⟩ = some (.string ⟨u0.toArray⟩) := O5.out.cell rfl
      have G6 : Hid (B13 wr w.heap.size (rc13 (.slice A n c) u e m h 1 x0 x1 x2 x3 x4 f k)) := Lib.hid G5.out
      obtain ⟨c0, c1, c2, c3, c4, c5, c6, c7, c8, c9, c10, c11, c12⟩ := G6.out.all
      obtain ⟨p0, p1, p2, p3, p4, p5, p6, p7, p8, p9, p10, p11, p12⟩ := G6.out.frees
      cases hgj : g0 with
      | true =>
        have T6 := Lib.hid hgj
        have HJ := Lib.hid (by have := H0.out; rw [hgj] at this; exact this : ∀ w, Calls Tryz.prog 37 #[.string ⟨u0.toArray⟩] w fun x w' => x = .returned (.tuple #[.int .u32 (a0 : Nat), .bool true]) ∧ w = w')
        clear hgj
        go_wp2_with (go_at_call 37; refine (HJ.out _).mono ?_; rintro e w4 ⟨rfl, rfl⟩)
        go_roundg (5 - (0 + 1))
        case measure => omega
        case rel => exact ⟨1, by omega, by omega, rfl, Lib.hid (B5.out.setCell (p := ⟨w.heap.size, 6, none⟩) (Nat.le_refl _) _), Lib.hid (show B13 _ _ (rc13 (.slice A n c) u e m h 1 (a0 : Nat) x1 x2 x3 x4 f k) from bk_set G6.out 6 _), Lib.hid (Z5.out.far HNE.out), Lib.hid (O5.out.set11 LW.out), Lib.hid (by have T := T5.out; refine ⟨fun _ => T6.out, fun h => absurd h (by omega), fun h => absurd h (by omega), fun h => absurd h (by omega), fun h => absurd h (by omega)⟩)⟩
      | false =>
        have E9 : Hid (suE [u0, u1, u2, u3, u4] = 2) := Lib.hid (by rw [HE.out, hgj]; simp)
        have HJ := Lib.hid (by have := H0.out; rw [hgj] at this; exact this : ∀ w, Calls Tryz.prog 37 #[.string ⟨u0.toArray⟩] w fun x w' => x = .returned (.tuple #[.int .u32 (a0 : Nat), .bool false]) ∧ w = w')
        clear hgj
        go_wp2_with (go_at_call 37; refine (HJ.out _).mono ?_; rintro e w4 ⟨rfl, rfl⟩)
        have r := B13.put (W := wr) Z5.out (.slice A n c) (.int .i64 (u)) (.int .i64 (e)) (.int .i64 (m)) (.int .i64 (h)) (.int .i64 (1)) (.int .u32 (x0)) (.int .u32 (x1)) (.int .u32 (x2)) (.int .u32 (x3)) (.int .u32 (x4)) (.int .i64 (f)) (.int .i64 (k))
        have B9 := put13_below (q := w.heap.size + 1) B5.out (Nat.le_succ _) (.slice A n c) (.int .i64 (u)) (.int .i64 (e)) (.int .i64 (m)) (.int .i64 (h)) (.int .i64 (1)) (.int .u32 (x0)) (.int .u32 (x1)) (.int .u32 (x2)) (.int .u32 (x3)) (.int .u32 (x4)) (.int .i64 (f)) (.int .i64 (k))
        obtain ⟨r0, r1, r2, r3, r4, r5, r6, r7, r8, r9, r10, r11, r12⟩ := r.all
        refine bodyPost_ret (v := .tuple #[.agg (rc13 (.slice A n c) (u) (e) (m) (h) (1) (x0) (x1) (x2) (x3) (x4) (f) (k)), .int .i64 (2)]) (by simp [results, Tryz.results17, go_sem, r0, r1, r2, r3, r4, r5, r6, r7, r8, r9, r10, r11, r12]) rfl ⟨_, _, _, _, _, by rw [E9.out], fun h => absurd (E9.out.symm.trans h) (by decide), B9⟩
    · have C5 : wr.cell? ⟨g, 1, none⟩ = some (.string ⟨u1.toArray⟩) := O5.out.cell rfl
      have G6 : Hid (B13 wr w.heap.size (rc13 (.slice A n c) u e m h 1 (a0 : Nat) x1 x2 x3 x4 f k)) := Lib.hid G5.out
      obtain ⟨c0, c1, c2, c3, c4, c5, c6, c7, c8, c9, c10, c11, c12⟩ := G6.out.all
      obtain ⟨p0, p1, p2, p3, p4, p5, p6, p7, p8, p9, p10, p11, p12⟩ := G6.out.frees
      cases hgj : g1 with
      | true =>
        have T6 := Lib.hid hgj
        have HJ := Lib.hid (by have := H1.out; rw [hgj] at this; exact this : ∀ w, Calls Tryz.prog 37 #[.string ⟨u1.toArray⟩] w fun x w' => x = .returned (.tuple #[.int .u32 (a1 : Nat), .bool true]) ∧ w = w')
        clear hgj
        go_wp2_with (go_at_call 37; refine (HJ.out _).mono ?_; rintro e w4 ⟨rfl, rfl⟩)
        go_roundg (5 - (1 + 1))
        case measure => omega
        case rel => exact ⟨2, by omega, by omega, rfl, Lib.hid (B5.out.setCell (p := ⟨w.heap.size, 7, none⟩) (Nat.le_refl _) _), Lib.hid (show B13 _ _ (rc13 (.slice A n c) u e m h 1 (a0 : Nat) (a1 : Nat) x2 x3 x4 f k) from bk_set G6.out 7 _), Lib.hid (Z5.out.far HNE.out), Lib.hid (O5.out.set11 LW.out), Lib.hid (by have T := T5.out; refine ⟨fun _ => T.1 (by omega), fun _ => T6.out, fun h => absurd h (by omega), fun h => absurd h (by omega), fun h => absurd h (by omega)⟩)⟩
      | false =>
        have E9 : Hid (suE [u0, u1, u2, u3, u4] = 2) := Lib.hid (by rw [HE.out, hgj]; simp)
        have HJ := Lib.hid (by have := H1.out; rw [hgj] at this; exact this : ∀ w, Calls Tryz.prog 37 #[.string ⟨u1.toArray⟩] w fun x w' => x = .returned (.tuple #[.int .u32 (a1 : Nat), .bool false]) ∧ w = w')
        clear hgj
        go_wp2_with (go_at_call 37; refine (HJ.out _).mono ?_; rintro e w4 ⟨rfl, rfl⟩)
        have r := B13.put (W := wr) Z5.out (.slice A n c) (.int .i64 (u)) (.int .i64 (e)) (.int .i64 (m)) (.int .i64 (h)) (.int .i64 (1)) (.int .u32 ((a0 : Nat))) (.int .u32 (x1)) (.int .u32 (x2)) (.int .u32 (x3)) (.int .u32 (x4)) (.int .i64 (f)) (.int .i64 (k))
        have B9 := put13_below (q := w.heap.size + 1) B5.out (Nat.le_succ _) (.slice A n c) (.int .i64 (u)) (.int .i64 (e)) (.int .i64 (m)) (.int .i64 (h)) (.int .i64 (1)) (.int .u32 ((a0 : Nat))) (.int .u32 (x1)) (.int .u32 (x2)) (.int .u32 (x3)) (.int .u32 (x4)) (.int .i64 (f)) (.int .i64 (k))
        obtain ⟨r0, r1, r2, r3, r4, r5, r6, r7, r8, r9, r10, r11, r12⟩ := r.all
        refine bodyPost_ret (v := .tuple #[.agg (rc13 (.slice A n c) (u) (e) (m) (h) (1) ((a0 : Nat)) (x1) (x2) (x3) (x4) (f) (k)), .int .i64 (2)]) (by simp [results, Tryz.results17, go_sem, r0, r1, r2, r3, r4, r5, r6, r7, r8, r9, r10, r11, r12]) rfl ⟨_, _, _, _, _, by rw [E9.out], fun h => absurd (E9.out.symm.trans h) (by decide), B9⟩
    · have C5 : wr.cell? ⟨g, 2, none⟩ = some (.string ⟨u2.toArray⟩) := O5.out.cell rfl
      have G6 : Hid (B13 wr w.heap.size (rc13 (.slice A n c) u e m h 1 (a0 : Nat) (a1 : Nat) x2 x3 x4 f k)) := Lib.hid G5.out
      obtain ⟨c0, c1, c2, c3, c4, c5, c6, c7, c8, c9, c10, c11, c12⟩ := G6.out.all
      obtain ⟨p0, p1, p2, p3, p4, p5, p6, p7, p8, p9, p10, p11, p12⟩ := G6.out.frees
      cases hgj : g2 with
      | true =>
        have T6 := Lib.hid hgj
        have HJ := Lib.hid (by have := H2.out; rw [hgj] at this; exact this : ∀ w, Calls Tryz.prog 37 #[.string ⟨u2.toArray⟩] w fun x w' => x = .returned (.tuple #[.int .u32 (a2 : Nat), .bool true]) ∧ w = w')
        clear hgj
        go_wp2_with (go_at_call 37; refine (HJ.out _).mono ?_; rintro e w4 ⟨rfl, rfl⟩)
        go_roundg (5 - (2 + 1))
        case measure => omega
        case rel => exact ⟨3, by omega, by omega, rfl, Lib.hid (B5.out.setCell (p := ⟨w.heap.size, 8, none⟩) (Nat.le_refl _) _), Lib.hid (show B13 _ _ (rc13 (.slice A n c) u e m h 1 (a0 : Nat) (a1 : Nat) (a2 : Nat) x3 x4 f k) from bk_set G6.out 8 _), Lib.hid (Z5.out.far HNE.out), Lib.hid (O5.out.set11 LW.out), Lib.hid (by have T := T5.out; refine ⟨fun _ => T.1 (by omega), fun _ => T.2.1 (by omega), fun _ => T6.out, fun h => absurd h (by omega), fun h => absurd h (by omega)⟩)⟩
      | false =>
        have E9 : Hid (suE [u0, u1, u2, u3, u4] = 2) := Lib.hid (by rw [HE.out, hgj]; simp)
        have HJ := Lib.hid (by have := H2.out; rw [hgj] at this; exact this : ∀ w, Calls Tryz.prog 37 #[.string ⟨u2.toArray⟩] w fun x w' => x = .returned (.tuple #[.int .u32 (a2 : Nat), .bool false]) ∧ w = w')
        clear hgj
        go_wp2_with (go_at_call 37; refine (HJ.out _).mono ?_; rintro e w4 ⟨rfl, rfl⟩)
        have r := B13.put (W := wr) Z5.out (.slice A n c) (.int .i64 (u)) (.int .i64 (e)) (.int .i64 (m)) (.int .i64 (h)) (.int .i64 (1)) (.int .u32 ((a0 : Nat))) (.int .u32 ((a1 : Nat))) (.int .u32 (x2)) (.int .u32 (x3)) (.int .u32 (x4)) (.int .i64 (f)) (.int .i64 (k))
        have B9 := put13_below (q := w.heap.size + 1) B5.out (Nat.le_succ _) (.slice A n c) (.int .i64 (u)) (.int .i64 (e)) (.int .i64 (m)) (.int .i64 (h)) (.int .i64 (1)) (.int .u32 ((a0 : Nat))) (.int .u32 ((a1 : Nat))) (.int .u32 (x2)) (.int .u32 (x3)) (.int .u32 (x4)) (.int .i64 (f)) (.int .i64 (k))
        obtain ⟨r0, r1, r2, r3, r4, r5, r6, r7, r8, r9, r10, r11, r12⟩ := r.all
        refine bodyPost_ret (v := .tuple #[.agg (rc13 (.slice A n c) (u) (e) (m) (h) (1) ((a0 : Nat)) ((a1 : Nat)) (x2) (x3) (x4) (f) (k)), .int .i64 (2)]) (by simp [results, Tryz.results17, go_sem, r0, r1, r2, r3, r4, r5, r6, r7, r8, r9, r10, r11, r12]) rfl ⟨_, _, _, _, _, by rw [E9.out], fun h => absurd (E9.out.symm.trans h) (by decide), B9⟩
    · have C5 : wr.cell? ⟨g, 3, none⟩ = some (.string ⟨u3.toArray⟩) := O5.out.cell rfl
      have G6 : Hid (B13 wr w.heap.size (rc13 (.slice A n c) u e m h 1 (a0 : Nat) (a1 : Nat) (a2 : Nat) x3 x4 f k)) := Lib.hid G5.out
      obtain ⟨c0, c1, c2, c3, c4, c5, c6, c7, c8, c9, c10, c11, c12⟩ := G6.out.all
      obtain ⟨p0, p1, p2, p3, p4, p5, p6, p7, p8, p9, p10, p11, p12⟩ := G6.out.frees
      cases hgj : g3 with
      | true =>
        have T6 := Lib.hid hgj
        have HJ := Lib.hid (by have := H3.out; rw [hgj] at this; exact this : ∀ w, Calls Tryz.prog 37 #[.string ⟨u3.toArray⟩] w fun x w' => x = .returned (.tuple #[.int .u32 (a3 : Nat), .bool true]) ∧ w = w')
        clear hgj
        go_wp2_with (go_at_call 37; refine (HJ.out _).mono ?_; rintro e w4 ⟨rfl, rfl⟩)
        go_roundg (5 - (3 + 1))
        case measure => omega
        case rel => exact ⟨4, by omega, by omega, rfl, Lib.hid (B5.out.setCell (p := ⟨w.heap.size, 9, none⟩) (Nat.le_refl _) _), Lib.hid (show B13 _ _ (rc13 (.slice A n c) u e m h 1 (a0 : Nat) (a1 : Nat) (a2 : Nat) (a3 : Nat) x4 f k) from bk_set G6.out 9 _), Lib.hid (Z5.out.far HNE.out), Lib.hid (O5.out.set11 LW.out), Lib.hid (by have T := T5.out; refine ⟨fun _ => T.1 (by omega), fun _ => T.2.1 (by omega), fun _ => T.2.2.1 (by omega), fun _ => T6.out, fun h => absurd h (by omega)⟩)⟩
      | false =>
        have E9 : Hid (suE [u0, u1, u2, u3, u4] = 2) := Lib.hid (by rw [HE.out, hgj]; simp)
        have HJ := Lib.hid (by have := H3.out; rw [hgj] at this; exact this : ∀ w, Calls Tryz.prog 37 #[.string ⟨u3.toArray⟩] w fun x w' => x = .returned (.tuple #[.int .u32 (a3 : Nat), .bool false]) ∧ w = w')
        clear hgj
        go_wp2_with (go_at_call 37; refine (HJ.out _).mono ?_; rintro e w4 ⟨rfl, rfl⟩)
        have r := B13.put (W := wr) Z5.out (.slice A n c) (.int .i64 (u)) (.int .i64 (e)) (.int .i64 (m)) (.int .i64 (h)) (.int .i64 (1)) (.int .u32 ((a0 : Nat))) (.int .u32 ((a1 : Nat))) (.int .u32 ((a2 : Nat))) (.int .u32 (x3)) (.int .u32 (x4)) (.int .i64 (f)) (.int .i64 (k))
        have B9 := put13_below (q := w.heap.size + 1) B5.out (Nat.le_succ _) (.slice A n c) (.int .i64 (u)) (.int .i64 (e)) (.int .i64 (m)) (.int .i64 (h)) (.int .i64 (1)) (.int .u32 ((a0 : Nat))) (.int .u32 ((a1 : Nat))) (.int .u32 ((a2 : Nat))) (.int .u32 (x3)) (.int .u32 (x4)) (.int .i64 (f)) (.int .i64 (k))
        obtain ⟨r0, r1, r2, r3, r4, r5, r6, r7, r8, r9, r10, r11, r12⟩ := r.all
        refine bodyPost_ret (v := .tuple #[.agg (rc13 (.slice A n c) (u) (e) (m) (h) (1) ((a0 : Nat)) ((a1 : Nat)) ((a2 : Nat)) (x3) (x4) (f) (k)), .int .i64 (2)]) (by simp [results, Tryz.results17, go_sem, r0, r1, r2, r3, r4, r5, r6, r7, r8, r9, r10, r11, r12]) rfl ⟨_, _, _, _, _, by rw [E9.out], fun h => absurd (E9.out.symm.trans h) (by decide), B9⟩
    · have C5 : wr.cell? ⟨g, 4, none⟩ = some (.string ⟨u4.toArray⟩) := O5.out.cell rfl
      have G6 : Hid (B13 wr w.heap.size (rc13 (.slice A n c) u e m h 1 (a0 : Nat) (a1 : Nat) (a2 : Nat) (a3 : Nat) x4 f k)) := Lib.hid G5.out
      obtain ⟨c0, c1, c2, c3, c4, c5, c6, c7, c8, c9, c10, c11, c12⟩ := G6.out.all
      obtain ⟨p0, p1, p2, p3, p4, p5, p6, p7, p8, p9, p10, p11, p12⟩ := G6.out.frees
      cases hgj : g4 with
      | true =>
        have T6 := Lib.hid hgj
        have HJ := Lib.hid (by have := H4.out; rw [hgj] at this; exact this : ∀ w, Calls Tryz.prog 37 #[.string ⟨u4.toArray⟩] w fun x w' => x = .returned (.tuple #[.int .u32 (a4 : Nat), .bool true]) ∧ w = w')
        clear hgj
        go_wp2_with (go_at_call 37; refine (HJ.out _).mono ?_; rintro e w4 ⟨rfl, rfl⟩)
        go_roundg (5 - (4 + 1))
        case measure => omega
        case rel => exact ⟨5, by omega, by omega, rfl, Lib.hid (B5.out.setCell (p := ⟨w.heap.size, 10, none⟩) (Nat.le_refl _) _), Lib.hid (show B13 _ _ (rc13 (.slice A n c) u e m h 1 (a0 : Nat) (a1 : Nat) (a2 : Nat) (a3 : Nat) (a4 : Nat) f k) from bk_set G6.out 10 _), Lib.hid (Z5.out.far HNE.out), Lib.hid (O5.out.set11 LW.out), Lib.hid (by have T := T5.out; refine ⟨fun _ => T.1 (by omega), fun _ => T.2.1 (by omega), fun _ => T.2.2.1 (by omega), fun _ => T.2.2.2.1 (by omega), fun _ => T6.out⟩)⟩
      | false =>
        have E9 : Hid (suE [u0, u1, u2, u3, u4] = 2) := Lib.hid (by rw [HE.out, hgj]; simp)
        have HJ := Lib.hid (by have := H4.out; rw [hgj] at this; exact this : ∀ w, Calls Tryz.prog 37 #[.string ⟨u4.toArray⟩] w fun x w' => x = .returned (.tuple #[.int .u32 (a4 : Nat), .bool false]) ∧ w = w')
        clear hgj
        go_wp2_with (go_at_call 37; refine (HJ.out _).mono ?_; rintro e w4 ⟨rfl, rfl⟩)
        have r := B13.put (W := wr) Z5.out (.slice A n c) (.int .i64 (u)) (.int .i64 (e)) (.int .i64 (m)) (.int .i64 (h)) (.int .i64 (1)) (.int .u32 ((a0 : Nat))) (.int .u32 ((a1 : Nat))) (.int .u32 ((a2 : Nat))) (.int .u32 ((a3 : Nat))) (.int .u32 (x4)) (.int .i64 (f)) (.int .i64 (k))
        have B9 := put13_below (q := w.heap.size + 1) B5.out (Nat.le_succ _) (.slice A n c) (.int .i64 (u)) (.int .i64 (e)) (.int .i64 (m)) (.int .i64 (h)) (.int .i64 (1)) (.int .u32 ((a0 : Nat))) (.int .u32 ((a1 : Nat))) (.int .u32 ((a2 : Nat))) (.int .u32 ((a3 : Nat))) (.int .u32 (x4)) (.int .i64 (f)) (.int .i64 (k))
        obtain ⟨r0, r1, r2, r3, r4, r5, r6, r7, r8, r9, r10, r11, r12⟩ := r.all
        refine bodyPost_ret (v := .tuple #[.agg (rc13 (.slice A n c) (u) (e) (m) (h) (1) ((a0 : Nat)) ((a1 : Nat)) ((a2 : Nat)) ((a3 : Nat)) (x4) (f) (k)), .int .i64 (2)]) (by simp [results, Tryz.results17, go_sem, r0, r1, r2, r3, r4, r5, r6, r7, r8, r9, r10, r11, r12]) rfl ⟨_, _, _, _, _, by rw [E9.out], fun h => absurd (E9.out.symm.trans h) (by decide), B9⟩
    · have G6 : Hid (B13 wr w.heap.size (rc13 (.slice A n c) u e m h 1 (a0 : Nat) (a1 : Nat) (a2 : Nat) (a3 : Nat) (a4 : Nat) f k)) := Lib.hid G5.out
      obtain ⟨c0, c1, c2, c3, c4, c5, c6, c7, c8, c9, c10, c11, c12⟩ := G6.out.all
      obtain ⟨p0, p1, p2, p3, p4, p5, p6, p7, p8, p9, p10, p11, p12⟩ := G6.out.frees
      have E9 : Hid (suE [u0, u1, u2, u3, u4] = 0) := Lib.hid (by have T := T5.out; rw [HE.out, T.1 (by omega), T.2.1 (by omega), T.2.2.1 (by omega), T.2.2.2.1 (by omega), T.2.2.2.2 (by omega)]; rfl)
      go_wp2
      have r := B13.put (W := wr) Z5.out (.slice A n c) (.int .i64 (u)) (.int .i64 (e)) (.int .i64 (m)) (.int .i64 (h)) (.int .i64 (1)) (.int .u32 ((a0 : Nat))) (.int .u32 ((a1 : Nat))) (.int .u32 ((a2 : Nat))) (.int .u32 ((a3 : Nat))) (.int .u32 ((a4 : Nat))) (.int .i64 (f)) (.int .i64 (k))
      have B9 := put13_below (q := w.heap.size + 1) B5.out (Nat.le_succ _) (.slice A n c) (.int .i64 (u)) (.int .i64 (e)) (.int .i64 (m)) (.int .i64 (h)) (.int .i64 (1)) (.int .u32 ((a0 : Nat))) (.int .u32 ((a1 : Nat))) (.int .u32 ((a2 : Nat))) (.int .u32 ((a3 : Nat))) (.int .u32 ((a4 : Nat))) (.int .i64 (f)) (.int .i64 (k))
      obtain ⟨r0, r1, r2, r3, r4, r5, r6, r7, r8, r9, r10, r11, r12⟩ := r.all
      refine bodyPost_ret (v := .tuple #[.agg (rc13 (.slice A n c) (u) (e) (m) (h) (1) ((a0 : Nat)) ((a1 : Nat)) ((a2 : Nat)) ((a3 : Nat)) ((a4 : Nat)) (f) (k)), .int .i64 (0)]) (by simp [results, Tryz.results17, go_sem, r0, r1, r2, r3, r4, r5, r6, r7, r8, r9, r10, r11, r12]) rfl ⟨_, _, _, _, _, by rw [E9.out], fun _ => ⟨by rw [N0.out], by rw [N1.out], by rw [N2.out], by rw [N3.out], by rw [N4.out]⟩, B9⟩

end Go.Proofs.YtdonicaiimeleaaGreatDoor

namespace Go.Proofs.YtdonicaiimeleaaGreatDoor
open Go.RowKit Go.WideShapes Go.ChangeShapes
set_option linter.unusedVariables false
set_option linter.unusedSimpArgs false

/-- What has been read of a text. -/
structure Rd11 where
  L : List Rw
  u : Int
  e : Int
  m : Int
  h : Int
  s : Int
  x0 : Int
  x1 : Int
  x2 : Int
  x3 : Int
  x4 : Int
/-- A line's error. -/
def on11 (r : Rd11) (l : List UInt8) : Int :=
  if wdL l = [] then 0 else
  if l.take 2 = [35, 36] then twE (tiE (l.drop 2)) r.m else
  if l.take 2 = [35, 64] then twE (tiE (l.drop 2)) r.h else
  if l.take 2 = [35, 104] then (if gpL (l.drop 2) = false ∨ (wdL (l.drop 2)).length ≠ 5 ∨ 0 < r.s then 2 else suE (wdL (l.drop 2))) else
  if l[0]? = some 35 then 0 else rwE l
/-- What has been read behind a right line. -/
def nx11 (r : Rd11) (l : List UInt8) : Rd11 :=
  if wdL l = [] then r else
  if l.take 2 = [35, 36] then { r with u := (tiN (l.drop 2) : Nat), m := r.m + 1 } else
  if l.take 2 = [35, 64] then { r with e := (tiN (l.drop 2) : Nat), h := r.h + 1 } else
  if l.take 2 = [35, 104] then { r with s := 1, x0 := (suN (wdL (l.drop 2)) 0 : Nat), x1 := (suN (wdL (l.drop 2)) 1 : Nat), x2 := (suN (wdL (l.drop 2)) 2 : Nat), x3 := (suN (wdL (l.drop 2)) 3 : Nat), x4 := (suN (wdL (l.drop 2)) 4 : Nat) } else
  if l[0]? = some 35 then r else { r with L := r.L ++ [⟨(rwA l : Nat) / 86400 + -25567, (rwO11 l : Nat)⟩] }
theorem rw_lone {l : List UInt8} (h : l.length = 1) : rwE l ≠ 0 := by
  match l, h with
  | [b], _ =>
    have h1 : ∀ x : List UInt8, x = [] ∨ x = [b] → (wdL x).length ≠ 2 := by
      rintro x (rfl | rfl)
      · simp [wdL, wo, fl]
      · cases hg : gp b <;> simp [wdL, wo, fl, hg]
    have h2 : rwW [b] = [] ∨ rwW [b] = [b] := by
      unfold rwW
      cases ctL [b] with
      | zero => exact .inl rfl
      | succ n => exact .inr (by simp)
    rw [(rw_two (h1 _ h2)).1]
    decide
/-- A Read's cells. -/
abbrev rcR (A : Option Addr) (c : Nat) (r : Rd11) (f k : Int) : Array Value := rc13 (.slice A r.L.length c) r.u r.e r.m r.h r.s r.x0 r.x1 r.x2 r.x3 r.x4 f k
theorem head_is (t : ByteArray) (q : List UInt8) (b : Bool) (h : decide (t.data.toList.take 2 = q) = b) : ((t.extract 0 2).toList == q) = b := by
  rw [ByteArray.toList_eq, cut_mid]
  rw [← h]
  simp only [List.drop_zero, Nat.sub_zero]
  by_cases e : t.data.toList.take 2 = q
  · rw [e]; simp
  · rw [decide_eq_false e]; exact beq_eq_false_iff_ne.2 e
end Go.Proofs.YtdonicaiimeleaaGreatDoor
