/- Merged: ListG, ListH, ListI. -/
import Derived.Test.YtdonicaiimeleaaGreatDoorGListParses12
import Derived.Test.YtdonicaiimeleaaGreatDoorGListParses14
import Derived.Test.YtdonicaiimeleaaGreatDoorGListParses15
namespace Go.Proofs.YtdonicaiimeleaaGreatDoor
open Go.RowKit Go.WideShapes Go.ChangeShapes
set_option linter.unusedVariables false
set_option linter.unusedSimpArgs false

theorem Ow.slice3 {T : TypeId} {w : World} {base : Nat} {v : Value} {L : List Rw} (h : Ow T w base v L) : ∃ A n c, v = .slice A n c := by
  obtain ⟨A, c, h1, -⟩ := h.reads
  exact ⟨A, _, c, h1⟩

set_option maxRecDepth 100000 in
set_option maxHeartbeats 8000000 in
theorem one_rowbad (A : Option Addr) (c : Nat) (L : List Rw) (u e m h s x0 x1 x2 x3 x4 f k : Int) (t : ByteArray) (w : World) (ht : t.size ≤ 100000) (hr : Rp w.heap.size w A L) (hA : A = none → c = 0 ∧ L = []) (hL : L.length ≤ 90000) (hw : wdL t.data.toList ≠ []) (h2 : 2 ≤ t.size) (hq0 : ((t.extract 0 2).toList == [35, 36]) = false) (hq1 : ((t.extract 0 2).toList == [35, 64]) = false) (hq2 : ((t.extract 0 2).toList == [35, 104]) = false) (h0 : t.data.toList[0]? ≠ some 35) (hE : rwE t.data.toList ≠ 0) :
    Calls Tryz.prog 17 #[.agg (rc13 (.slice A L.length c) u e m h s x0 x1 x2 x3 x4 f k), .string t] w fun x w' => x = .returned (.tuple #[.agg (rc13 (.slice A L.length c) u e m h s x0 x1 x2 x3 x4 f k), .int .i64 (rwE t.data.toList)]) ∧ Below w.heap.size w w' := by
  have hs0 : 0 < t.size := by omega
  have t0 : ((t[0].toNat : Int) == 35) = false := by
    have : t[0].toNat ≠ 35 := fun k => h0 (by rw [byte_at hs0, UInt8.toNat_inj.1 (show t[0].toNat = (35 : UInt8).toNat from k)])
    simp; omega
  obtain ⟨W1, hW1, b1, g1, z1⟩ := two13 w (.slice A L.length c) u e m h s x0 x1 x2 x3 x4 f k
  have HW := Lib.hid (words_any11 t W1 ht)
  have hlen : (wdL t.data.toList).length ≠ 0 := fun e => hw (List.eq_nil_of_length_eq_zero e)
  have B1 := Lib.hid b1; have G1 := Lib.hid g1; have Z1 := Lib.hid z1
  obtain ⟨n9, hn9⟩ : ∃ n9, (wdL t.data.toList).length = n9 := ⟨_, rfl⟩
  have H9 := Lib.hid hn9
  have hz9 : ¬ (n9 : Int) = 0 := by omega
  have hz2 : (t.size : Int) > 1 := by omega
  have hz3 : (2 : Int) ≤ (t.size : Int) := by omega
  clear hw b1 g1 z1 hlen hn9
  have hz4 : (0 : Int) < (t.size : Int) := by omega
  have HRw := Lib.hid (fun w => row11_any t w ht)
  have HR := Lib.hid hr; have HA := Lib.hid hA; have HL := Lib.hid hL
  clear h0 h2 hr hA hL
  generalize rwE t.data.toList = b at *
  generalize rwA t.data.toList = ra at *
  generalize rwO11 t.data.toList = rb at *
  have hb0 : (b == 0) = false := by simpa using hE
  clear hE
  generalize L.length = N at *
  go_enter Tryz.func17, Tryz.ntmps17
  go_upto_region 1 with fail
  rw [← hW1]
  clear hW1
  go_upto_region 37 with (go_at_call 34; refine HW.out.mono ?_; rintro e w1 ⟨v, rfl, hv, hb⟩; obtain ⟨A9, c9, rfl, -, -⟩ := hv.reads; rw [H9.out]; have B2 := Lib.hid (B1.out.trans (hb.mono B1.out.size)); have G2 := Lib.hid (G1.out.keep hb); have Z2 := Lib.hid (Z1.out.keep hb); clear hb hv HW)
  go_upto_region 38 with (go_at_call 38; refine (HRw.out _).mono ?_; rintro e w2 ⟨rfl, hb⟩; have B3 := Lib.hid (B2.out.trans (hb.mono B2.out.size)); have G3 := Lib.hid (G2.out.keep hb); have Z3 := Lib.hid (Z2.out.keep hb); clear hb HRw)
  obtain ⟨c0, c1, c2, c3, c4, c5, c6, c7, c8, c9, c10, c11, c12⟩ := G3.out.all
  obtain ⟨d0, d1, d2, d3, d4, d5, d6, d7, d8, d9, d10, d11, d12⟩ := Z3.out.all
  obtain ⟨f0, f1, f2, f3, f4, f5, f6, f7, f8, f9, f10, f11, f12⟩ := Z3.out.frees
  go_wp2
  have r := B13.put (W := w2) Z3.out (.slice A N c) (.int .i64 (u)) (.int .i64 (e)) (.int .i64 (m)) (.int .i64 (h)) (.int .i64 (s)) (.int .u32 (x0)) (.int .u32 (x1)) (.int .u32 (x2)) (.int .u32 (x3)) (.int .u32 (x4)) (.int .i64 (f)) (.int .i64 (k))
  have B9 := put13_below (q := w.heap.size + 1) B3.out (Nat.le_succ _) (.slice A N c) (.int .i64 (u)) (.int .i64 (e)) (.int .i64 (m)) (.int .i64 (h)) (.int .i64 (s)) (.int .u32 (x0)) (.int .u32 (x1)) (.int .u32 (x2)) (.int .u32 (x3)) (.int .u32 (x4)) (.int .i64 (f)) (.int .i64 (k))
  obtain ⟨r0, r1, r2, r3, r4, r5, r6, r7, r8, r9, r10, r11, r12⟩ := r.all
  refine bodyPost_ret (v := .tuple #[.agg (rc13 (.slice A N c) (u) (e) (m) (h) (s) (x0) (x1) (x2) (x3) (x4) (f) (k)), .int .i64 (b)]) (by simp [results, Tryz.results17, go_sem, r0, r1, r2, r3, r4, r5, r6, r7, r8, r9, r10, r11, r12]) rfl ⟨rfl, B9⟩

set_option maxRecDepth 100000 in
set_option maxHeartbeats 8000000 in
theorem one_rowlone (A : Option Addr) (c : Nat) (L : List Rw) (u e m h s x0 x1 x2 x3 x4 f k : Int) (t : ByteArray) (w : World) (ht : t.size ≤ 100000) (hr : Rp w.heap.size w A L) (hA : A = none → c = 0 ∧ L = []) (hL : L.length ≤ 90000) (hw : wdL t.data.toList ≠ []) (h2 : t.size = 1) (h0 : t.data.toList[0]? ≠ some 35) (hE : rwE t.data.toList ≠ 0) :
    Calls Tryz.prog 17 #[.agg (rc13 (.slice A L.length c) u e m h s x0 x1 x2 x3 x4 f k), .string t] w fun x w' => x = .returned (.tuple #[.agg (rc13 (.slice A L.length c) u e m h s x0 x1 x2 x3 x4 f k), .int .i64 (rwE t.data.toList)]) ∧ Below w.heap.size w w' := by
  have hs0 : 0 < t.size := by omega
  have t0 : ((t[0].toNat : Int) == 35) = false := by
    have : t[0].toNat ≠ 35 := fun k => h0 (by rw [byte_at hs0, UInt8.toNat_inj.1 (show t[0].toNat = (35 : UInt8).toNat from k)])
    simp; omega
  obtain ⟨W1, hW1, b1, g1, z1⟩ := two13 w (.slice A L.length c) u e m h s x0 x1 x2 x3 x4 f k
  have HW := Lib.hid (words_any11 t W1 ht)
  have hlen : (wdL t.data.toList).length ≠ 0 := fun e => hw (List.eq_nil_of_length_eq_zero e)
  have B1 := Lib.hid b1; have G1 := Lib.hid g1; have Z1 := Lib.hid z1
  obtain ⟨n9, hn9⟩ : ∃ n9, (wdL t.data.toList).length = n9 := ⟨_, rfl⟩
  have H9 := Lib.hid hn9
  have hz9 : ¬ (n9 : Int) = 0 := by omega
  clear hw b1 g1 z1 hlen hn9
  have hz2 : ¬ (t.size : Int) > 1 := by omega
  have hz4 : (0 : Int) < (t.size : Int) := by omega
  have HRw := Lib.hid (fun w => row11_any t w ht)
  have HR := Lib.hid hr; have HA := Lib.hid hA; have HL := Lib.hid hL
  clear h0 h2 hr hA hL
  generalize rwE t.data.toList = b at *
  generalize rwA t.data.toList = ra at *
  generalize rwO11 t.data.toList = rb at *
  have hb0 : (b == 0) = false := by simpa using hE
  clear hE
  generalize L.length = N at *
  go_enter Tryz.func17, Tryz.ntmps17
  go_upto_region 1 with fail
  rw [← hW1]
  clear hW1
  go_upto_region 37 with (go_at_call 34; refine HW.out.mono ?_; rintro e w1 ⟨v, rfl, hv, hb⟩; obtain ⟨A9, c9, rfl, -, -⟩ := hv.reads; rw [H9.out]; have B2 := Lib.hid (B1.out.trans (hb.mono B1.out.size)); have G2 := Lib.hid (G1.out.keep hb); have Z2 := Lib.hid (Z1.out.keep hb); clear hb hv HW)
  go_upto_region 38 with (go_at_call 38; refine (HRw.out _).mono ?_; rintro e w2 ⟨rfl, hb⟩; have B3 := Lib.hid (B2.out.trans (hb.mono B2.out.size)); have G3 := Lib.hid (G2.out.keep hb); have Z3 := Lib.hid (Z2.out.keep hb); clear hb HRw)
  obtain ⟨c0, c1, c2, c3, c4, c5, c6, c7, c8, c9, c10, c11, c12⟩ := G3.out.all
  obtain ⟨d0, d1, d2, d3, d4, d5, d6, d7, d8, d9, d10, d11, d12⟩ := Z3.out.all
  obtain ⟨f0, f1, f2, f3, f4, f5, f6, f7, f8, f9, f10, f11, f12⟩ := Z3.out.frees
  go_wp2
  have r := B13.put (W := w2) Z3.out (.slice A N c) (.int .i64 (u)) (.int .i64 (e)) (.int .i64 (m)) (.int .i64 (h)) (.int .i64 (s)) (.int .u32 (x0)) (.int .u32 (x1)) (.int .u32 (x2)) (.int .u32 (x3)) (.int .u32 (x4)) (.int .i64 (f)) (.int .i64 (k))
  have B9 := put13_below (q := w.heap.size + 1) B3.out (Nat.le_succ _) (.slice A N c) (.int .i64 (u)) (.int .i64 (e)) (.int .i64 (m)) (.int .i64 (h)) (.int .i64 (s)) (.int .u32 (x0)) (.int .u32 (x1)) (.int .u32 (x2)) (.int .u32 (x3)) (.int .u32 (x4)) (.int .i64 (f)) (.int .i64 (k))
  obtain ⟨r0, r1, r2, r3, r4, r5, r6, r7, r8, r9, r10, r11, r12⟩ := r.all
  refine bodyPost_ret (v := .tuple #[.agg (rc13 (.slice A N c) (u) (e) (m) (h) (s) (x0) (x1) (x2) (x3) (x4) (f) (k)), .int .i64 (b)]) (by simp [results, Tryz.results17, go_sem, r0, r1, r2, r3, r4, r5, r6, r7, r8, r9, r10, r11, r12]) rfl ⟨rfl, B9⟩

end Go.Proofs.YtdonicaiimeleaaGreatDoor

namespace Go.Proofs.YtdonicaiimeleaaGreatDoor
open Go.RowKit Go.WideShapes Go.ChangeShapes
set_option linter.unusedVariables false
set_option linter.unusedSimpArgs false

theorem one_row4 (w : World) (T : TypeId) (a b : Int) : Rp (w.alloc (.cells #[.int .i64 a, .int .i64 b] T)).heap.size (w.alloc (.cells #[.int .i64 a, .int .i64 b] T)) (some ⟨w.heap.size, 0, none⟩) [⟨a, b⟩] := by
  have h := heap_alloc_new w (.cells #[.int .i64 a, .int .i64 b] T)
  refine .inr ⟨_, 0, rfl, by simp, by simp, fun j hj => ?_⟩
  obtain rfl : j = 0 := by simpa using hj
  exact ⟨bk_cell h 0, bk_cell h 1⟩

theorem Ow.set11 {T : TypeId} {w : World} {base g i : Nat} {v u : Value} {L : List Rw} (h : Ow T w base v L) (hg : g < base) : Ow T (w.setCell ⟨g, i, none⟩ u) base v L := by
  refine ⟨h.1, ?_⟩
  rcases h.2 with h0 | ⟨g', cap, cur, h1, h2, h3, h4⟩
  · exact .inl h0
  · refine .inr ⟨g', cap, cur, h1, h2, ?_, h4⟩
    have hne : g ≠ g' := by omega
    simp [World.setCell, Array.getElem?_modify, h3, hne]
theorem ow_put13 {T : TypeId} {w : World} {base g : Nat} {v : Value} {L : List Rw} (h : Ow T w base v L) (hg : g < base) (a0 a1 a2 a3 a4 a5 a6 a7 a8 a9 a10 a11 a12 : Value) : Ow T (put13 w g a0 a1 a2 a3 a4 a5 a6 a7 a8 a9 a10 a11 a12) base v L :=
  ((((((((((((h.set11 hg).set11 hg).set11 hg).set11 hg).set11 hg).set11 hg).set11 hg).set11 hg).set11 hg).set11 hg).set11 hg).set11 hg).set11 hg

set_option maxRecDepth 100000 in
set_option maxHeartbeats 8000000 in
theorem one_rowgood (A : Option Addr) (c : Nat) (L : List Rw) (u e m h s x0 x1 x2 x3 x4 f k : Int) (t : ByteArray) (w : World) (ht : t.size ≤ 100000) (hr : Rp w.heap.size w A L) (hA : A = none → c = 0 ∧ L = []) (hL : L.length ≤ 90000) (hw : wdL t.data.toList ≠ []) (h2 : 2 ≤ t.size) (hq0 : ((t.extract 0 2).toList == [35, 36]) = false) (hq1 : ((t.extract 0 2).toList == [35, 64]) = false) (hq2 : ((t.extract 0 2).toList == [35, 104]) = false) (h0 : t.data.toList[0]? ≠ some 35) (hE : rwE t.data.toList = 0) :
    Calls Tryz.prog 17 #[.agg (rc13 (.slice A L.length c) u e m h s x0 x1 x2 x3 x4 f k), .string t] w fun x w' => ∃ A' c', x = .returned (.tuple #[.agg (rc13 (.slice A' (L ++ [(⟨(rwA t.data.toList : Nat) / 86400 + -25567, (rwO11 t.data.toList : Nat)⟩ : Rw)]).length c') u e m h s x0 x1 x2 x3 x4 f k), .int .i64 0]) ∧ Rp w'.heap.size w' A' (L ++ [(⟨(rwA t.data.toList : Nat) / 86400 + -25567, (rwO11 t.data.toList : Nat)⟩ : Rw)]) ∧ (A' = none → c' = 0 ∧ L ++ [(⟨(rwA t.data.toList : Nat) / 86400 + -25567, (rwO11 t.data.toList : Nat)⟩ : Rw)] = []) ∧ Below w.heap.size w w' ∧ ∀ b off, A' = some ⟨b, off, none⟩ → w.heap.size ≤ b := by
  have hs0 : 0 < t.size := by omega
  have t0 : ((t[0].toNat : Int) == 35) = false := by
    have : t[0].toNat ≠ 35 := fun k => h0 (by rw [byte_at hs0, UInt8.toNat_inj.1 (show t[0].toNat = (35 : UInt8).toNat from k)])
    simp; omega
  have hra : rwA t.data.toList ≤ 9223372036854775807 := by unfold rwA; split; exact whN_le _ _ _ _; omega
  have hrb : rwO11 t.data.toList ≤ 9223372036854775807 := by unfold rwO11; split; exact whN_le _ _ _ _; omega
  obtain ⟨W1, hW1, b1, g1, z1⟩ := two13 w (.slice A L.length c) u e m h s x0 x1 x2 x3 x4 f k
  have HW := Lib.hid (words_any11 t W1 ht)
  have hlen : (wdL t.data.toList).length ≠ 0 := fun e => hw (List.eq_nil_of_length_eq_zero e)
  have B1 := Lib.hid b1; have G1 := Lib.hid g1; have Z1 := Lib.hid z1
  obtain ⟨n9, hn9⟩ : ∃ n9, (wdL t.data.toList).length = n9 := ⟨_, rfl⟩
  have H9 := Lib.hid hn9
  have hz9 : ¬ (n9 : Int) = 0 := by omega
  have hz2 : (t.size : Int) > 1 := by omega
  have hz3 : (2 : Int) ≤ (t.size : Int) := by omega
  clear hw b1 g1 z1 hlen hn9
  have hz4 : (0 : Int) < (t.size : Int) := by omega
  have HRw := Lib.hid (fun w => row11_any t w ht)
  have HR := Lib.hid hr; have HA := Lib.hid hA; have HL := Lib.hid hL
  have HOf := Lib.hid (fun w => rof_any 1900 1 1 w (by unfold isy; omega) (by decide) (by decide) (by decide) (by decide))
  rw [show st 1900 + em 1900 (1 - 1) + 1 - 1 = -25567 by decide] at HOf
  rw [hE] at HRw
  generalize rwA t.data.toList = ra at *
  generalize rwO11 t.data.toList = rb at *
  obtain ⟨q, hq⟩ : ∃ q : Nat, q = ra / 86400 := ⟨_, rfl⟩
  have j1 : ((ra : Nat) : Int).tdiv 86400 = (q : Int) := by rw [Int.tdiv_eq_ediv_of_nonneg (by omega)]; omega
  have j2 : ((ra : Nat) : Int) / 86400 = (q : Int) := by omega
  have j3 : (q : Int) ≤ 9223372036854775807 := by omega
  have j5 : (0 : Int) ≤ (q : Int) := by omega
  rw [j2]
  have HQ := Lib.hid hq
  obtain ⟨N, hN⟩ : ∃ N, L.length = N := ⟨_, rfl⟩
  have HN := Lib.hid hN
  rw [hN] at hW1 G1 ⊢
  clear h0 h2 hr hA hL hE hq hN
  go_enter Tryz.func17, Tryz.ntmps17
  go_upto_region 1 with fail
  rw [← hW1]
  clear hW1
  go_upto_region 37 with (go_at_call 34; refine HW.out.mono ?_; rintro e w1 ⟨v, rfl, hv, hb⟩; obtain ⟨A9, c9, rfl, -, -⟩ := hv.reads; rw [H9.out]; have B2 := Lib.hid (B1.out.trans (hb.mono B1.out.size)); have G2 := Lib.hid (G1.out.keep hb); have Z2 := Lib.hid (Z1.out.keep hb); clear hb hv HW)
  go_upto_region 38 with (go_at_call 38; refine (HRw.out _).mono ?_; rintro e w2 ⟨rfl, hb⟩; have B3 := Lib.hid (B2.out.trans (hb.mono B2.out.size)); have G3 := Lib.hid (G2.out.keep hb); have Z3 := Lib.hid (Z2.out.keep hb); clear hb HRw)
  obtain ⟨c0, c1, c2, c3, c4, c5, c6, c7, c8, c9, c10, c11, c12⟩ := G3.out.all
  have l0 : w.heap.size < w2.heap.size := World.block_lt_of_cell? _ _ c0
  have ba : Below w2.heap.size w2 (w2.alloc (.cells #[] 77)) := (Below.refl _ w2).alloc (Nat.le_refl _) _
  have Ba := Lib.hid ba
  have HRa := Lib.hid ((HR.out.below B3.out).mono (Nat.le_refl _))
  have HRb := Lib.hid ((HRa.out.low.keep ba).low)
  clear ba
  go_wp2_with (first
    | (at_builtin; refine app_rows 28 77 et_doc _ _ w2.heap.size _ [] (World.ownsRow_made w2 #[] 0 (Nat.le_refl _) (Nat.zero_le _) rfl) A L N c HN.out HRb.out HA.out (by simp) (by have := HL.out; omega) (by simp) rfl rfl rfl rfl ?_; intro v' w3 hv hb; rw [List.nil_append] at hv; obtain ⟨A3, n3, c3, rfl⟩ := Ow.slice3 hv; have O3 := Lib.hid hv; have B4 := Lib.hid (B3.out.trans ((Ba.out.trans hb).mono B3.out.size)); have D3 := Lib.hid (Ba.out.trans hb); clear hv hb HRb)
    | (go_at_call 32; refine (HOf.out _).mono ?_; rintro e w4 ⟨rfl, hb⟩; have O4 := Lib.hid (O3.out.below hb (Nat.le_refl _)); have B5 := Lib.hid (B4.out.trans (hb.mono B4.out.size)); have D4 := Lib.hid (D3.out.trans (hb.mono D3.out.size)); have X5 : Hid (∀ o, Below w.heap.size w (w4.alloc o) ∧ Below w2.heap.size w2 (w4.alloc o) ∧ Ow 77 (w4.alloc o) w2.heap.size (.slice A3 n3 c3) L) := Lib.hid (fun o => ⟨B5.out.trans (((Below.refl _ w4).alloc (Nat.le_refl _) o).mono B5.out.size), D4.out.trans (((Below.refl _ w4).alloc (Nat.le_refl _) o).mono D4.out.size), O4.out.below ((Below.refl _ w4).alloc (Nat.le_refl _) o) (Nat.le_refl _)⟩); clear hb O3 D3)
    | (at_builtin; refine app_rows 28 77 et_doc _ _ w2.heap.size _ L (X5.out _).2.2 (some ⟨w4.heap.size, 0, none⟩) [(⟨(q : Int) + -25567, (rb : Nat)⟩ : Rw)] 1 1 rfl (one_row4 _ _ _ _) (fun h => by cases h) (by have := HL.out; omega) (by simp) (X5.out (.cells #[.int .i64 ((q : Int) + -25567), .int .i64 (rb : Int)] 77)).2.1.size rfl rfl rfl rfl ?_; intro v' w5 hv hb; obtain ⟨A6, n6, c6, rfl⟩ := Ow.slice3 hv; have O6 := Lib.hid hv; have B6 := Lib.hid ((X5.out _).1.trans (hb.mono B3.out.size)); have D6 := Lib.hid ((X5.out _).2.1.trans hb); have G6 := Lib.hid (G3.out.keep D6.out); have Z6 := Lib.hid (Z3.out.keep D6.out); obtain ⟨e0, e1, e2, e3, e4, e5, e6, e7, e8, e9, e10, e11, e12⟩ := G6.out.all; obtain ⟨p0, p1, p2, p3, p4, p5, p6, p7, p8, p9, p10, p11, p12⟩ := G6.out.frees; obtain ⟨d0, d1, d2, d3, d4, d5, d6, d7, d8, d9, d10, d11, d12⟩ := Z6.out.all; obtain ⟨f0, f1, f2, f3, f4, f5, f6, f7, f8, f9, f10, f11, f12⟩ := Z6.out.frees; clear hv hb X5))
  have hne : w.heap.size ≠ w.heap.size + 1 := by omega
  have l1 : w.heap.size + 1 < w2.heap.size := bk_lt Z3.out
  have r := B13.put (W := (w5.setCell ⟨w.heap.size, 0, none⟩ (.slice A6 n6 c6))) (Z6.out.far (i := 0) (v := .slice A6 n6 c6) hne) (.slice A6 n6 c6) (.int .i64 (u)) (.int .i64 (e)) (.int .i64 (m)) (.int .i64 (h)) (.int .i64 (s)) (.int .u32 (x0)) (.int .u32 (x1)) (.int .u32 (x2)) (.int .u32 (x3)) (.int .u32 (x4)) (.int .i64 (f)) (.int .i64 (k))
  have B9 := put13_below (q := w.heap.size + 1) (B6.out.setCell (p := ⟨w.heap.size, 0, none⟩) (Nat.le_refl _) (.slice A6 n6 c6)) (Nat.le_succ _) (.slice A6 n6 c6) (.int .i64 (u)) (.int .i64 (e)) (.int .i64 (m)) (.int .i64 (h)) (.int .i64 (s)) (.int .u32 (x0)) (.int .u32 (x1)) (.int .u32 (x2)) (.int .u32 (x3)) (.int .u32 (x4)) (.int .i64 (f)) (.int .i64 (k))
  have O9 := ow_put13 (O6.out.set11 (i := 0) (u := .slice A6 n6 c6) l0) l1 (.slice A6 n6 c6) (.int .i64 (u)) (.int .i64 (e)) (.int .i64 (m)) (.int .i64 (h)) (.int .i64 (s)) (.int .u32 (x0)) (.int .u32 (x1)) (.int .u32 (x2)) (.int .u32 (x3)) (.int .u32 (x4)) (.int .i64 (f)) (.int .i64 (k))
  obtain ⟨A7, c7, e7, R7, N7, -, -, X7⟩ := O9.reads
  injection e7 with a7 n7 k7
  subst a7
  subst k7
  obtain ⟨r0, r1, r2, r3, r4, r5, r6, r7, r8, r9, r10, r11, r12⟩ := r.all
  refine bodyPost_ret (v := .tuple #[.agg (rc13 (.slice A6 n6 c6) u e m h s x0 x1 x2 x3 x4 f k), .int .i64 0]) (by simp [results, Tryz.results17, go_sem, r0, r1, r2, r3, r4, r5, r6, r7, r8, r9, r10, r11, r12]) rfl ⟨A6, c6, by rw [n7], R7, N7, B9, fun b off hb => Nat.le_trans (Nat.le_of_lt l0) (X7 b off hb).1⟩

end Go.Proofs.YtdonicaiimeleaaGreatDoor

namespace Go.Proofs.YtdonicaiimeleaaGreatDoor
open Go.RowKit Go.WideShapes Go.ChangeShapes
set_option linter.unusedVariables false
set_option linter.unusedSimpArgs false

set_option maxRecDepth 100000 in
set_option maxHeartbeats 8000000 in
theorem one_sumno (A : Option Addr) (n c : Nat) (u e m h s x0 x1 x2 x3 x4 f k : Int) (t : ByteArray) (w : World) (ht : t.size ≤ 100000) (hw : wdL t.data.toList ≠ []) (h2 : 2 ≤ t.size) (hq0 : ((t.extract 0 2).toList == [35, 36]) = false) (hq1 : ((t.extract 0 2).toList == [35, 64]) = false) (hq2 : ((t.extract 0 2).toList == [35, 104]) = true) (hbad : gpL (t.data.toList.drop 2) = false ∨ (wdL (t.data.toList.drop 2)).length ≠ 5 ∨ 0 < s) :
    Calls Tryz.prog 17 #[.agg (rc13 (.slice A n c) u e m h s x0 x1 x2 x3 x4 f k), .string t] w fun x w' => x = .returned (.tuple #[.agg (rc13 (.slice A n c) u e m h s x0 x1 x2 x3 x4 f k), .int .i64 2]) ∧ Below w.heap.size w w' := by
  obtain ⟨W1, hW1, b1, g1, z1⟩ := two13 w (.slice A n c) u e m h s x0 x1 x2 x3 x4 f k
  have HW := Lib.hid (words_any11 t W1 ht)
  have hlen : (wdL t.data.toList).length ≠ 0 := fun e => hw (List.eq_nil_of_length_eq_zero e)
  have B1 := Lib.hid b1; have G1 := Lib.hid g1; have Z1 := Lib.hid z1
  obtain ⟨n9, hn9⟩ : ∃ n9, (wdL t.data.toList).length = n9 := ⟨_, rfl⟩
  have H9 := Lib.hid hn9
  have hz9 : ¬ (n9 : Int) = 0 := by omega
  have hz2 : (t.size : Int) > 1 := by omega
  have hz3 : (2 : Int) ≤ (t.size : Int) := by omega
  clear hw b1 g1 z1 hlen hn9
  have HX := Lib.hid (fun w => words_any11 (t.extract 2 t.size) w (by rw [ByteArray.size_extract]; omega))
  have HG := Lib.hid (fun w => gap_any (t.extract 2 t.size) w (by rw [ByteArray.size_extract]; omega))
  rw [rest_is] at HX HG
  obtain ⟨n8, hn8⟩ : ∃ n8, (wdL (t.data.toList.drop 2)).length = n8 := ⟨_, rfl⟩
  rw [hn8] at hbad
  have H8 := Lib.hid hn8
  have HB := Lib.hid hbad
  generalize gpL (t.data.toList.drop 2) = gg at *
  clear h2 hn8 hbad
  go_enter Tryz.func17, Tryz.ntmps17
  go_upto_region 1 with fail
  rw [← hW1]
  clear hW1
  go_upto_region 23 with (go_at_call 34; refine HW.out.mono ?_; rintro e w1 ⟨v, rfl, hv, hb⟩; obtain ⟨A9, c9, rfl, -, -⟩ := hv.reads; rw [H9.out]; have B2 := Lib.hid (B1.out.trans (hb.mono B1.out.size)); have G2 := Lib.hid (G1.out.keep hb); have Z2 := Lib.hid (Z1.out.keep hb); clear hb hv HW)
  go_upto_region 24 with (go_at_call 34; refine (HX.out _).mono ?_; rintro e w2 ⟨v2, rfl, hv2, hb⟩; obtain ⟨A8, c8, rfl, -, -⟩ := hv2.reads; rw [H8.out]; have B3 := Lib.hid (B2.out.trans (hb.mono B2.out.size)); have G3 := Lib.hid (G2.out.keep hb); have Z3 := Lib.hid (Z2.out.keep hb); clear hb hv2 HX)
  obtain ⟨c0, c1, c2, c3, c4, c5, c6, c7, c8, c9, c10, c11, c12⟩ := G3.out.all
  obtain ⟨d0, d1, d2, d3, d4, d5, d6, d7, d8, d9, d10, d11, d12⟩ := Z3.out.all
  obtain ⟨f0, f1, f2, f3, f4, f5, f6, f7, f8, f9, f10, f11, f12⟩ := Z3.out.frees
  rcases Bool.eq_false_or_eq_true gg with hg | hg
  · subst hg
    by_cases hl : n8 = 5
    · subst hl
      have hs5 : s > 0 := by rcases HB.out with h | h | h; cases h; exact absurd rfl h; exact h
      clear HB
      go_wp2_with (go_at_call 36; refine (HG.out _).mono ?_; rintro e w4 ⟨rfl, rfl⟩)
      have r := B13.put (W := w2) Z3.out (.slice A n c) (.int .i64 (u)) (.int .i64 (e)) (.int .i64 (m)) (.int .i64 (h)) (.int .i64 (s)) (.int .u32 (x0)) (.int .u32 (x1)) (.int .u32 (x2)) (.int .u32 (x3)) (.int .u32 (x4)) (.int .i64 (f)) (.int .i64 (k))
      have B9 := put13_below (q := w.heap.size + 1) B3.out (Nat.le_succ _) (.slice A n c) (.int .i64 (u)) (.int .i64 (e)) (.int .i64 (m)) (.int .i64 (h)) (.int .i64 (s)) (.int .u32 (x0)) (.int .u32 (x1)) (.int .u32 (x2)) (.int .u32 (x3)) (.int .u32 (x4)) (.int .i64 (f)) (.int .i64 (k))
      obtain ⟨r0, r1, r2, r3, r4, r5, r6, r7, r8, r9, r10, r11, r12⟩ := r.all
      refine bodyPost_ret (v := .tuple #[.agg (rc13 (.slice A n c) (u) (e) (m) (h) (s) (x0) (x1) (x2) (x3) (x4) (f) (k)), .int .i64 (2)]) (by simp [results, Tryz.results17, go_sem, r0, r1, r2, r3, r4, r5, r6, r7, r8, r9, r10, r11, r12]) rfl ⟨rfl, B9⟩
    · have hl5 : ((n8 : Int) != 5) = true := by simp; omega
      clear HB hl
      go_wp2_with (go_at_call 36; refine (HG.out _).mono ?_; rintro e w4 ⟨rfl, rfl⟩)
      have r := B13.put (W := w2) Z3.out (.slice A n c) (.int .i64 (u)) (.int .i64 (e)) (.int .i64 (m)) (.int .i64 (h)) (.int .i64 (s)) (.int .u32 (x0)) (.int .u32 (x1)) (.int .u32 (x2)) (.int .u32 (x3)) (.int .u32 (x4)) (.int .i64 (f)) (.int .i64 (k))
      have B9 := put13_below (q := w.heap.size + 1) B3.out (Nat.le_succ _) (.slice A n c) (.int .i64 (u)) (.int .i64 (e)) (.int .i64 (m)) (.int .i64 (h)) (.int .i64 (s)) (.int .u32 (x0)) (.int .u32 (x1)) (.int .u32 (x2)) (.int .u32 (x3)) (.int .u32 (x4)) (.int .i64 (f)) (.int .i64 (k))
      obtain ⟨r0, r1, r2, r3, r4, r5, r6, r7, r8, r9, r10, r11, r12⟩ := r.all
      refine bodyPost_ret (v := .tuple #[.agg (rc13 (.slice A n c) (u) (e) (m) (h) (s) (x0) (x1) (x2) (x3) (x4) (f) (k)), .int .i64 (2)]) (by simp [results, Tryz.results17, go_sem, r0, r1, r2, r3, r4, r5, r6, r7, r8, r9, r10, r11, r12]) rfl ⟨rfl, B9⟩
  · subst hg
    clear HB
    go_wp2_with (go_at_call 36; refine (HG.out _).mono ?_; rintro e w4 ⟨rfl, rfl⟩)
    have r := B13.put (W := w2) Z3.out (.slice A n c) (.int .i64 (u)) (.int .i64 (e)) (.int .i64 (m)) (.int .i64 (h)) (.int .i64 (s)) (.int .u32 (x0)) (.int .u32 (x1)) (.int .u32 (x2)) (.int .u32 (x3)) (.int .u32 (x4)) (.int .i64 (f)) (.int .i64 (k))
    have B9 := put13_below (q := w.heap.size + 1) B3.out (Nat.le_succ _) (.slice A n c) (.int .i64 (u)) (.int .i64 (e)) (.int .i64 (m)) (.int .i64 (h)) (.int .i64 (s)) (.int .u32 (x0)) (.int .u32 (x1)) (.int .u32 (x2)) (.int .u32 (x3)) (.int .u32 (x4)) (.int .i64 (f)) (.int .i64 (k))
    obtain ⟨r0, r1, r2, r3, r4, r5, r6, r7, r8, r9, r10, r11, r12⟩ := r.all
    refine bodyPost_ret (v := .tuple #[.agg (rc13 (.slice A n c) (u) (e) (m) (h) (s) (x0) (x1) (x2) (x3) (x4) (f) (k)), .int .i64 (2)]) (by simp [results, Tryz.results17, go_sem, r0, r1, r2, r3, r4, r5, r6, r7, r8, r9, r10, r11, r12]) rfl ⟨rfl, B9⟩

end Go.Proofs.YtdonicaiimeleaaGreatDoor
