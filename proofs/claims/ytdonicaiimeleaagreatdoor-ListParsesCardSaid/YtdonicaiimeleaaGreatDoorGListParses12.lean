/- Merged: ListF. -/
import Derived.Test.YtdonicaiimeleaaGreatDoorGListParses11
namespace Go.Proofs.YtdonicaiimeleaaGreatDoor
open Go.RowKit Go.WideShapes Go.ChangeShapes
set_option linter.unusedVariables false
set_option linter.unusedSimpArgs false

theorem B13.far {w : World} {g k i : Nat} {cs : Array Value} {v : Value} (h : B13 w g cs) (hk : k ≠ g) : B13 (w.setCell ⟨k, i, none⟩ v) g cs := by
  unfold B13 at *
  simp [World.setCell, Array.getElem?_modify, hk, h]
theorem rest_is (t : ByteArray) : (t.extract 2 t.size).data.toList = t.data.toList.drop 2 := by
  rw [cut_mid, List.take_of_length_le (by simp)]
/-- What a time's line answers: its time's error, or that there was one already. -/
def twE (b m : Int) : Int := if b = 0 then (if m + 1 > 1 then 2 else 0) else b

set_option maxRecDepth 100000 in
set_option maxHeartbeats 8000000 in
theorem one_time (A : Option Addr) (n c : Nat) (u e m h s x0 x1 x2 x3 x4 f k : Int) (t : ByteArray) (w : World) (ht : t.size ≤ 100000) (hw : wdL t.data.toList ≠ []) (h2 : 2 ≤ t.size) (hq0 : ((t.extract 0 2).toList == [35, 36]) = true) (hm : 0 ≤ m) (hm2 : m ≤ 1000000) :
    Calls Tryz.prog 17 #[.agg (rc13 (.slice A n c) u e m h s x0 x1 x2 x3 x4 f k), .string t] w fun x w' => x = .returned (.tuple #[.agg (rc13 (.slice A n c) (tiN (t.data.toList.drop 2) : Nat) e (m + 1) h s x0 x1 x2 x3 x4 f k), .int .i64 (twE (tiE (t.data.toList.drop 2)) m)]) ∧ Below w.heap.size w w' := by
  obtain ⟨W1, hW1, b1, g1, z1⟩ := two13 w (.slice A n c) u e m h s x0 x1 x2 x3 x4 f k
  have HW := Lib.hid (words_any11 t W1 ht)
  have hlen : (wdL t.data.toList).length ≠ 0 := fun e => hw (List.eq_nil_of_length_eq_zero e)
  have B1 := Lib.hid b1; have G1 := Lib.hid g1; have Z1 := Lib.hid z1
  obtain ⟨n9, hn9⟩ : ∃ n9, (wdL t.data.toList).length = n9 := ⟨_, rfl⟩
  have H9 := Lib.hid hn9
  have hz9 : ¬ (n9 : Int) = 0 := by omega
  have hz2 : (t.size : Int) > 1 := by omega
  have hz3 : (2 : Int) ≤ (t.size : Int) := by omega
  clear hw b1 g1 z1 hlen hn9
  have HT := Lib.hid (fun w => time11_any (t.extract 2 t.size) w (by rw [ByteArray.size_extract]; omega))
  rw [rest_is] at HT
  generalize tiE (t.data.toList.drop 2) = b at *
  generalize htn : ((tiN (t.data.toList.drop 2) : Nat) : Int) = tn at *
  clear htn
  have arith : IntKind.i64.wrap (m + 1) = m + 1 := IntWalk.i64_in _ (by omega)
  clear h2 hm2
  go_enter Tryz.func17, Tryz.ntmps17
  go_upto_region 1 with fail
  rw [← hW1]
  clear hW1
  go_upto_region 9 with (go_at_call 34; refine HW.out.mono ?_; rintro e w1 ⟨v, rfl, hv, hb⟩; obtain ⟨A9, c9, rfl, -, -⟩ := hv.reads; rw [H9.out]; have B2 := Lib.hid (B1.out.trans (hb.mono B1.out.size)); have G2 := Lib.hid (G1.out.keep hb); have Z2 := Lib.hid (Z1.out.keep hb); clear hb hv HW)
  go_upto_region 10 with (go_at_call 35; refine (HT.out _).mono ?_; rintro e w2 ⟨rfl, hb⟩; have B3 := Lib.hid (B2.out.trans (hb.mono B2.out.size)); have G3 := Lib.hid (G2.out.keep hb); have Z3 := Lib.hid (Z2.out.keep hb); clear hb HT)
  obtain ⟨c0, c1, c2, c3, c4, c5, c6, c7, c8, c9, c10, c11, c12⟩ := G3.out.all
  obtain ⟨d0, d1, d2, d3, d4, d5, d6, d7, d8, d9, d10, d11, d12⟩ := Z3.out.all
  obtain ⟨f0, f1, f2, f3, f4, f5, f6, f7, f8, f9, f10, f11, f12⟩ := Z3.out.frees
  obtain ⟨p0, p1, p2, p3, p4, p5, p6, p7, p8, p9, p10, p11, p12⟩ := G3.out.frees
  have hne : w.heap.size ≠ w.heap.size + 1 := by omega
  have ZZ := Lib.hid (((Z3.out.far (i := 3) (v := .int .i64 (m + 1)) hne).far (i := 1) (v := .int .i64 tn) hne))
  have BB := Lib.hid ((B3.out.setCell (p := ⟨w.heap.size, 3, none⟩) (Nat.le_refl _) (.int .i64 (m + 1))).setCell (p := ⟨w.heap.size, 1, none⟩) (Nat.le_refl _) (.int .i64 tn))
  clear hne
  by_cases hb0 : b = 0
  · subst hb0
    by_cases hc1 : m + 1 > 1
    · have E9 : Hid (twE 0 m = 2) := Lib.hid (by unfold twE; rw [if_pos rfl, if_pos hc1])
      go_wp2
      have r := B13.put (W := ((w2.setCell ⟨w.heap.size, 3, none⟩ (.int .i64 (m + 1))).setCell ⟨w.heap.size, 1, none⟩ (.int .i64 tn))) ZZ.out (.slice A n c) (.int .i64 (tn)) (.int .i64 (e)) (.int .i64 (m + 1)) (.int .i64 (h)) (.int .i64 (s)) (.int .u32 (x0)) (.int .u32 (x1)) (.int .u32 (x2)) (.int .u32 (x3)) (.int .u32 (x4)) (.int .i64 (f)) (.int .i64 (k))
      have B9 := put13_below (q := w.heap.size + 1) BB.out (Nat.le_succ _) (.slice A n c) (.int .i64 (tn)) (.int .i64 (e)) (.int .i64 (m + 1)) (.int .i64 (h)) (.int .i64 (s)) (.int .u32 (x0)) (.int .u32 (x1)) (.int .u32 (x2)) (.int .u32 (x3)) (.int .u32 (x4)) (.int .i64 (f)) (.int .i64 (k))
      obtain ⟨r0, r1, r2, r3, r4, r5, r6, r7, r8, r9, r10, r11, r12⟩ := r.all
      refine bodyPost_ret (v := .tuple #[.agg (rc13 (.slice A n c) (tn) (e) (m + 1) (h) (s) (x0) (x1) (x2) (x3) (x4) (f) (k)), .int .i64 (2)]) (by simp [results, Tryz.results17, go_sem, r0, r1, r2, r3, r4, r5, r6, r7, r8, r9, r10, r11, r12]) rfl ⟨by rw [E9.out], B9⟩
    · have E9 : Hid (twE 0 m = 0) := Lib.hid (by unfold twE; rw [if_pos rfl, if_neg hc1])
      go_wp2
      have r := B13.put (W := ((w2.setCell ⟨w.heap.size, 3, none⟩ (.int .i64 (m + 1))).setCell ⟨w.heap.size, 1, none⟩ (.int .i64 tn))) ZZ.out (.slice A n c) (.int .i64 (tn)) (.int .i64 (e)) (.int .i64 (m + 1)) (.int .i64 (h)) (.int .i64 (s)) (.int .u32 (x0)) (.int .u32 (x1)) (.int .u32 (x2)) (.int .u32 (x3)) (.int .u32 (x4)) (.int .i64 (f)) (.int .i64 (k))
      have B9 := put13_below (q := w.heap.size + 1) BB.out (Nat.le_succ _) (.slice A n c) (.int .i64 (tn)) (.int .i64 (e)) (.int .i64 (m + 1)) (.int .i64 (h)) (.int .i64 (s)) (.int .u32 (x0)) (.int .u32 (x1)) (.int .u32 (x2)) (.int .u32 (x3)) (.int .u32 (x4)) (.int .i64 (f)) (.int .i64 (k))
      obtain ⟨r0, r1, r2, r3, r4, r5, r6, r7, r8, r9, r10, r11, r12⟩ := r.all
      refine bodyPost_ret (v := .tuple #[.agg (rc13 (.slice A n c) (tn) (e) (m + 1) (h) (s) (x0) (x1) (x2) (x3) (x4) (f) (k)), .int .i64 (0)]) (by simp [results, Tryz.results17, go_sem, r0, r1, r2, r3, r4, r5, r6, r7, r8, r9, r10, r11, r12]) rfl ⟨by rw [E9.out], B9⟩
  · have hb1 : (b == 0) = false := by simpa using hb0
    have E9 : Hid (twE b m = b) := Lib.hid (by unfold twE; rw [if_neg hb0])
    clear hb0
    go_wp2
    have r := B13.put (W := ((w2.setCell ⟨w.heap.size, 3, none⟩ (.int .i64 (m + 1))).setCell ⟨w.heap.size, 1, none⟩ (.int .i64 tn))) ZZ.out (.slice A n c) (.int .i64 (tn)) (.int .i64 (e)) (.int .i64 (m + 1)) (.int .i64 (h)) (.int .i64 (s)) (.int .u32 (x0)) (.int .u32 (x1)) (.int .u32 (x2)) (.int .u32 (x3)) (.int .u32 (x4)) (.int .i64 (f)) (.int .i64 (k))
    have B9 := put13_below (q := w.heap.size + 1) BB.out (Nat.le_succ _) (.slice A n c) (.int .i64 (tn)) (.int .i64 (e)) (.int .i64 (m + 1)) (.int .i64 (h)) (.int .i64 (s)) (.int .u32 (x0)) (.int .u32 (x1)) (.int .u32 (x2)) (.int .u32 (x3)) (.int .u32 (x4)) (.int .i64 (f)) (.int .i64 (k))
    obtain ⟨r0, r1, r2, r3, r4, r5, r6, r7, r8, r9, r10, r11, r12⟩ := r.all
    refine bodyPost_ret (v := .tuple #[.agg (rc13 (.slice A n c) (tn) (e) (m + 1) (h) (s) (x0) (x1) (x2) (x3) (x4) (f) (k)), .int .i64 (b)]) (by simp [results, Tryz.results17, go_sem, r0, r1, r2, r3, r4, r5, r6, r7, r8, r9, r10, r11, r12]) rfl ⟨by rw [E9.out], B9⟩

set_option maxRecDepth 100000 in
set_option maxHeartbeats 8000000 in
theorem one_hold (A : Option Addr) (n c : Nat) (u e m h s x0 x1 x2 x3 x4 f k : Int) (t : ByteArray) (w : World) (ht : t.size ≤ 100000) (hw : wdL t.data.toList ≠ []) (h2 : 2 ≤ t.size) (hq0 : ((t.extract 0 2).toList == [35, 36]) = false) (hq1 : ((t.extract 0 2).toList == [35, 64]) = true) (hm : 0 ≤ h) (hm2 : h ≤ 1000000) :
    Calls Tryz.prog 17 #[.agg (rc13 (.slice A n c) u e m h s x0 x1 x2 x3 x4 f k), .string t] w fun x w' => x = .returned (.tuple #[.agg (rc13 (.slice A n c) u (tiN (t.data.toList.drop 2) : Nat) m (h + 1) s x0 x1 x2 x3 x4 f k), .int .i64 (twE (tiE (t.data.toList.drop 2)) h)]) ∧ Below w.heap.size w w' := by
  obtain ⟨W1, hW1, b1, g1, z1⟩ := two13 w (.slice A n c) u e m h s x0 x1 x2 x3 x4 f k
  have HW := Lib.hid (words_any11 t W1 ht)
  have hlen : (wdL t.data.toList).length ≠ 0 := fun e => hw (List.eq_nil_of_length_eq_zero e)
  have B1 := Lib.hid b1; have G1 := Lib.hid g1; have Z1 := Lib.hid z1
  obtain ⟨n9, hn9⟩ : ∃ n9, (wdL t.data.toList).length = n9 := ⟨_, rfl⟩
  have H9 := Lib.hid hn9
  have hz9 : ¬ (n9 : Int) = 0 := by omega
  have hz2 : (t.size : Int) > 1 := by omega
  have hz3 : (2 : Int) ≤ (t.size : Int) := by omega
  clear hw b1 g1 z1 hlen hn9
  have HT := Lib.hid (fun w => time11_any (t.extract 2 t.size) w (by rw [ByteArray.size_extract]; omega))
  rw [rest_is] at HT
  generalize tiE (t.data.toList.drop 2) = b at *
  generalize htn : ((tiN (t.data.toList.drop 2) : Nat) : Int) = tn at *
  clear htn
  have arith : IntKind.i64.wrap (h + 1) = h + 1 := IntWalk.i64_in _ (by omega)
  clear h2 hm2
  go_enter Tryz.func17, Tryz.ntmps17
  go_upto_region 1 with fail
  rw [← hW1]
  clear hW1
  go_upto_region 16 with (go_at_call 34; refine HW.out.mono ?_; rintro e w1 ⟨v, rfl, hv, hb⟩; obtain ⟨A9, c9, rfl, -, -⟩ := hv.reads; rw [H9.out]; have B2 := Lib.hid (B1.out.trans (hb.mono B1.out.size)); have G2 := Lib.hid (G1.out.keep hb); have Z2 := Lib.hid (Z1.out.keep hb); clear hb hv HW)
  go_upto_region 17 with (go_at_call 35; refine (HT.out _).mono ?_; rintro e w2 ⟨rfl, hb⟩; have B3 := Lib.hid (B2.out.trans (hb.mono B2.out.size)); have G3 := Lib.hid (G2.out.keep hb); have Z3 := Lib.hid (Z2.out.keep hb); clear hb HT)
  obtain ⟨c0, c1, c2, c3, c4, c5, c6, c7, c8, c9, c10, c11, c12⟩ := G3.out.all
  obtain ⟨d0, d1, d2, d3, d4, d5, d6, d7, d8, d9, d10, d11, d12⟩ := Z3.out.all
  obtain ⟨f0, f1, f2, f3, f4, f5, f6, f7, f8, f9, f10, f11, f12⟩ := Z3.out.frees
  obtain ⟨p0, p1, p2, p3, p4, p5, p6, p7, p8, p9, p10, p11, p12⟩ := G3.out.frees
  have hne : w.heap.size ≠ w.heap.size + 1 := by omega
  have ZZ := Lib.hid (((Z3.out.far (i := 4) (v := .int .i64 (h + 1)) hne).far (i := 2) (v := .int .i64 tn) hne))
  have BB := Lib.hid ((B3.out.setCell (p := ⟨w.heap.size, 4, none⟩) (Nat.le_refl _) (.int .i64 (h + 1))).setCell (p := ⟨w.heap.size, 2, none⟩) (Nat.le_refl _) (.int .i64 tn))
  clear hne
  by_cases hb0 : b = 0
  · subst hb0
    by_cases hc1 : h + 1 > 1
    · have E9 : Hid (twE 0 h = 2) := Lib.hid (by unfold twE; rw [if_pos rfl, if_pos hc1])
      go_wp2
      have r := B13.put (W := ((w2.setCell ⟨w.heap.size, 4, none⟩ (.int .i64 (h + 1))).setCell ⟨w.heap.size, 2, none⟩ (.int .i64 tn))) ZZ.out (.slice A n c) (.int .i64 (u)) (.int .i64 (tn)) (.int .i64 (m)) (.int .i64 (h + 1)) (.int .i64 (s)) (.int .u32 (x0)) (.int .u32 (x1)) (.int .u32 (x2)) (.int .u32 (x3)) (.int .u32 (x4)) (.int .i64 (f)) (.int .i64 (k))
      have B9 := put13_below (q := w.heap.size + 1) BB.out (Nat.le_succ _) (.slice A n c) (.int .i64 (u)) (.int .i64 (tn)) (.int .i64 (m)) (.int .i64 (h + 1)) (.int .i64 (s)) (.int .u32 (x0)) (.int .u32 (x1)) (.int .u32 (x2)) (.int .u32 (x3)) (.int .u32 (x4)) (.int .i64 (f)) (.int .i64 (k))
      obtain ⟨r0, r1, r2, r3, r4, r5, r6, r7, r8, r9, r10, r11, r12⟩ := r.all
      refine bodyPost_ret (v := .tuple #[.agg (rc13 (.slice A n c) (u) (tn) (m) (h + 1) (s) (x0) (x1) (x2) (x3) (x4) (f) (k)), .int .i64 (2)]) (by simp [results, Tryz.results17, go_sem, r0, r1, r2, r3, r4, r5, r6, r7, r8, r9, r10, r11, r12]) rfl ⟨by rw [E9.out], B9⟩
    · have E9 : Hid (twE 0 h = 0) := Lib.hid (by unfold twE; rw [if_pos rfl, if_neg hc1])
      go_wp2
      have r := B13.put (W := ((w2.setCell ⟨w.heap.size, 4, none⟩ (.int .i64 (h + 1))).setCell ⟨w.heap.size, 2, none⟩ (.int .i64 tn))) ZZ.out (.slice A n c) (.int .i64 (u)) (.int .i64 (tn)) (.int .i64 (m)) (.int .i64 (h + 1)) (.int .i64 (s)) (.int .u32 (x0)) (.int .u32 (x1)) (.int .u32 (x2)) (.int .u32 (x3)) (.int .u32 (x4)) (.int .i64 (f)) (.int .i64 (k))
      have B9 := put13_below (q := w.heap.size + 1) BB.out (Nat.le_succ _) (.slice A n c) (.int .i64 (u)) (.int .i64 (tn)) (.int .i64 (m)) (.int .i64 (h + 1)) (.int .i64 (s)) (.int .u32 (x0)) (.int .u32 (x1)) (.int .u32 (x2)) (.int .u32 (x3)) (.int .u32 (x4)) (.int .i64 (f)) (.int .i64 (k))
      obtain ⟨r0, r1, r2, r3, r4, r5, r6, r7, r8, r9, r10, r11, r12⟩ := r.all
      refine bodyPost_ret (v := .tuple #[.agg (rc13 (.slice A n c) (u) (tn) (m) (h + 1) (s) (x0) (x1) (x2) (x3) (x4) (f) (k)), .int .i64 (0)]) (by simp [results, Tryz.results17, go_sem, r0, r1, r2, r3, r4, r5, r6, r7, r8, r9, r10, r11, r12]) rfl ⟨by rw [E9.out], B9⟩
  · have hb1 : (b == 0) = false := by simpa using hb0
    have E9 : Hid (twE b h = b) := Lib.hid (by unfold twE; rw [if_neg hb0])
    clear hb0
    go_wp2
    have r := B13.put (W := ((w2.setCell ⟨w.heap.size, 4, none⟩ (.int .i64 (h + 1))).setCell ⟨w.heap.size, 2, none⟩ (.int .i64 tn))) ZZ.out (.slice A n c) (.int .i64 (u)) (.int .i64 (tn)) (.int .i64 (m)) (.int .i64 (h + 1)) (.int .i64 (s)) (.int .u32 (x0)) (.int .u32 (x1)) (.int .u32 (x2)) (.int .u32 (x3)) (.int .u32 (x4)) (.int .i64 (f)) (.int .i64 (k))
    have B9 := put13_below (q := w.heap.size + 1) BB.out (Nat.le_succ _) (.slice A n c) (.int .i64 (u)) (.int .i64 (tn)) (.int .i64 (m)) (.int .i64 (h + 1)) (.int .i64 (s)) (.int .u32 (x0)) (.int .u32 (x1)) (.int .u32 (x2)) (.int .u32 (x3)) (.int .u32 (x4)) (.int .i64 (f)) (.int .i64 (k))
    obtain ⟨r0, r1, r2, r3, r4, r5, r6, r7, r8, r9, r10, r11, r12⟩ := r.all
    refine bodyPost_ret (v := .tuple #[.agg (rc13 (.slice A n c) (u) (tn) (m) (h + 1) (s) (x0) (x1) (x2) (x3) (x4) (f) (k)), .int .i64 (b)]) (by simp [results, Tryz.results17, go_sem, r0, r1, r2, r3, r4, r5, r6, r7, r8, r9, r10, r11, r12]) rfl ⟨by rw [E9.out], B9⟩

set_option maxRecDepth 100000 in
set_option maxHeartbeats 8000000 in
theorem one_mark (A : Option Addr) (n c : Nat) (u e m h s x0 x1 x2 x3 x4 f k : Int) (t : ByteArray) (w : World) (ht : t.size ≤ 100000) (hw : wdL t.data.toList ≠ []) (h2 : 2 ≤ t.size) (hq0 : ((t.extract 0 2).toList == [35, 36]) = false) (hq1 : ((t.extract 0 2).toList == [35, 64]) = false) (hq2 : ((t.extract 0 2).toList == [35, 104]) = false) (h0 : t.data.toList[0]? = some 35) :
    Calls Tryz.prog 17 #[.agg (rc13 (.slice A n c) u e m h s x0 x1 x2 x3 x4 f k), .string t] w fun x w' => x = .returned (.tuple #[.agg (rc13 (.slice A n c) u e m h s x0 x1 x2 x3 x4 f k), .int .i64 0]) ∧ Below w.heap.size w w' := by
  have hs0 : 0 < t.size := by omega
  have t0 : ((t[0].toNat : Int) == 35) = true := by
    rw [byte_at hs0] at h0
    injection h0 with h0
    rw [h0]; rfl
  obtain ⟨W1, hW1, b1, g1, z1⟩ := two13 w (.slice A n c) u e m h s x0 x1 x2 x3 x4 f k
  have HW := Lib.hid (words_any11 t W1 ht)
  have hlen : (wdL t.data.toList).length ≠ 0 := fun e => hw (List.eq_nil_of_length_eq_zero e)
  have B1 := Lib.hid b1; have G1 := Lib.hid g1; have Z1 := Lib.hid z1
  obtain ⟨n9, hn9⟩ : ∃ n9, (wdL t.data.toList).length = n9 := ⟨_, rfl⟩
  have H9 := Lib.hid hn9
  have hz9 : ¬ (n9 : Int) = 0 := by omega
  have hz2 : (t.size : Int) > 1 := by omega
  have hz3 : (2 : Int) ≤ (t.size : Int) := by omega
  clear hw b1 g1 z1 hlen hn9
  have hz4 : (0 : Int) < (t.size : Int) := by omega
  clear h0 h2
  go_enter Tryz.func17, Tryz.ntmps17
  go_upto_region 1 with fail
  rw [← hW1]
  clear hW1
  go_upto_region 36 with (go_at_call 34; refine HW.out.mono ?_; rintro e w1 ⟨v, rfl, hv, hb⟩; obtain ⟨A9, c9, rfl, -, -⟩ := hv.reads; rw [H9.out]; have B2 := Lib.hid (B1.out.trans (hb.mono B1.out.size)); have G2 := Lib.hid (G1.out.keep hb); have Z2 := Lib.hid (Z1.out.keep hb); clear hb hv HW)
  obtain ⟨c0, c1, c2, c3, c4, c5, c6, c7, c8, c9, c10, c11, c12⟩ := G2.out.all
  obtain ⟨d0, d1, d2, d3, d4, d5, d6, d7, d8, d9, d10, d11, d12⟩ := Z2.out.all
  obtain ⟨f0, f1, f2, f3, f4, f5, f6, f7, f8, f9, f10, f11, f12⟩ := Z2.out.frees
  go_wp2
  have r := B13.put (W := w1) Z2.out (.slice A n c) (.int .i64 (u)) (.int .i64 (e)) (.int .i64 (m)) (.int .i64 (h)) (.int .i64 (s)) (.int .u32 (x0)) (.int .u32 (x1)) (.int .u32 (x2)) (.int .u32 (x3)) (.int .u32 (x4)) (.int .i64 (f)) (.int .i64 (k))
  have B9 := put13_below (q := w.heap.size + 1) B2.out (Nat.le_succ _) (.slice A n c) (.int .i64 (u)) (.int .i64 (e)) (.int .i64 (m)) (.int .i64 (h)) (.int .i64 (s)) (.int .u32 (x0)) (.int .u32 (x1)) (.int .u32 (x2)) (.int .u32 (x3)) (.int .u32 (x4)) (.int .i64 (f)) (.int .i64 (k))
  obtain ⟨r0, r1, r2, r3, r4, r5, r6, r7, r8, r9, r10, r11, r12⟩ := r.all
  refine bodyPost_ret (v := .tuple #[.agg (rc13 (.slice A n c) (u) (e) (m) (h) (s) (x0) (x1) (x2) (x3) (x4) (f) (k)), .int .i64 (0)]) (by simp [results, Tryz.results17, go_sem, r0, r1, r2, r3, r4, r5, r6, r7, r8, r9, r10, r11, r12]) rfl ⟨rfl, B9⟩

set_option maxRecDepth 100000 in
set_option maxHeartbeats 8000000 in
theorem one_lone (A : Option Addr) (n c : Nat) (u e m h s x0 x1 x2 x3 x4 f k : Int) (t : ByteArray) (w : World) (ht : t.size ≤ 100000) (hw : wdL t.data.toList ≠ []) (h2 : t.size = 1) (h0 : t.data.toList[0]? = some 35) :
    Calls Tryz.prog 17 #[.agg (rc13 (.slice A n c) u e m h s x0 x1 x2 x3 x4 f k), .string t] w fun x w' => x = .returned (.tuple #[.agg (rc13 (.slice A n c) u e m h s x0 x1 x2 x3 x4 f k), .int .i64 0]) ∧ Below w.heap.size w w' := by
  have hs0 : 0 < t.size := by omega
  have t0 : ((t[0].toNat : Int) == 35) = true := by
    rw [byte_at hs0] at h0
    injection h0 with h0
    rw [h0]; rfl
  obtain ⟨W1, hW1, b1, g1, z1⟩ := two13 w (.slice A n c) u e m h s x0 x1 x2 x3 x4 f k
  have HW := Lib.hid (words_any11 t W1 ht)
  have hlen : (wdL t.data.toList).length ≠ 0 := fun e => hw (List.eq_nil_of_length_eq_zero e)
  have B1 := Lib.hid b1; have G1 := Lib.hid g1; have Z1 := Lib.hid z1
  obtain ⟨n9, hn9⟩ : ∃ n9, (wdL t.data.toList).length = n9 := ⟨_, rfl⟩
  have H9 := Lib.hid hn9
  have hz9 : ¬ (n9 : Int) = 0 := by omega
  clear hw b1 g1 z1 hlen hn9
  have hz2 : ¬ (t.size : Int) > 1 := by omega
  have hz4 : (0 : Int) < (t.size : Int) := by omega
  clear h0 h2
  go_enter Tryz.func17, Tryz.ntmps17
  go_upto_region 1 with fail
  rw [← hW1]
  clear hW1
  go_upto_region 36 with (go_at_call 34; refine HW.out.mono ?_; rintro e w1 ⟨v, rfl, hv, hb⟩; obtain ⟨A9, c9, rfl, -, -⟩ := hv.reads; rw [H9.out]; have B2 := Lib.hid (B1.out.trans (hb.mono B1.out.size)); have G2 := Lib.hid (G1.out.keep hb); have Z2 := Lib.hid (Z1.out.keep hb); clear hb hv HW)
  obtain ⟨c0, c1, c2, c3, c4, c5, c6, c7, c8, c9, c10, c11, c12⟩ := G2.out.all
  obtain ⟨d0, d1, d2, d3, d4, d5, d6, d7, d8, d9, d10, d11, d12⟩ := Z2.out.all
  obtain ⟨f0, f1, f2, f3, f4, f5, f6, f7, f8, f9, f10, f11, f12⟩ := Z2.out.frees
  go_wp2
  have r := B13.put (W := w1) Z2.out (.slice A n c) (.int .i64 (u)) (.int .i64 (e)) (.int .i64 (m)) (.int .i64 (h)) (.int .i64 (s)) (.int .u32 (x0)) (.int .u32 (x1)) (.int .u32 (x2)) (.int .u32 (x3)) (.int .u32 (x4)) (.int .i64 (f)) (.int .i64 (k))
  have B9 := put13_below (q := w.heap.size + 1) B2.out (Nat.le_succ _) (.slice A n c) (.int .i64 (u)) (.int .i64 (e)) (.int .i64 (m)) (.int .i64 (h)) (.int .i64 (s)) (.int .u32 (x0)) (.int .u32 (x1)) (.int .u32 (x2)) (.int .u32 (x3)) (.int .u32 (x4)) (.int .i64 (f)) (.int .i64 (k))
  obtain ⟨r0, r1, r2, r3, r4, r5, r6, r7, r8, r9, r10, r11, r12⟩ := r.all
  refine bodyPost_ret (v := .tuple #[.agg (rc13 (.slice A n c) (u) (e) (m) (h) (s) (x0) (x1) (x2) (x3) (x4) (f) (k)), .int .i64 (0)]) (by simp [results, Tryz.results17, go_sem, r0, r1, r2, r3, r4, r5, r6, r7, r8, r9, r10, r11, r12]) rfl ⟨rfl, B9⟩

end Go.Proofs.YtdonicaiimeleaaGreatDoor
