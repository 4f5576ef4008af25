/- The statements of layer 10: Made. -/
import Derived.Test.YtiamggjebaabkaaDoorLeapK
import Derived.BigRegion
namespace Go.Proofs.YtiamggjebaabkaaDoor
open Go.RowKit
set_option linter.unusedVariables false
set_option linter.unusedSimpArgs false

theorem two_box (w : World) (A : Option Addr) (n c : Nat) (u e : Int) : ∃ W1, W1 = (w.alloc (.cells #[.slice A n c, .int .i64 u, .int .i64 e] 24)).alloc (.cells #[.slice none 0 0, .int .i64 0, .int .i64 0] 41) ∧ Below w.heap.size w W1 ∧ W1.heap.size = w.heap.size + 1 + 1 ∧
    W1.cell? ⟨w.heap.size, 0, none⟩ = some (.slice A n c) ∧ W1.cell? ⟨w.heap.size, 1, none⟩ = some (.int .i64 u) ∧ W1.cell? ⟨w.heap.size, 2, none⟩ = some (.int .i64 e) ∧ B3 W1 (w.heap.size + 1) (.slice none 0 0) (.int .i64 0) (.int .i64 0) := by
  obtain ⟨W1, hW1⟩ : ∃ W1, W1 = (w.alloc (.cells #[.slice A n c, .int .i64 u, .int .i64 e] 24)).alloc (.cells #[.slice none 0 0, .int .i64 0, .int .i64 0] 41) := ⟨_, rfl⟩
  have g0 : (w.alloc (.cells #[.slice A n c, .int .i64 u, .int .i64 e] 24)).heap[w.heap.size]? = some (.cells #[.slice A n c, .int .i64 u, .int .i64 e] 24 (0, 0)) := heap_alloc_new w _
  have g1 : W1.heap[w.heap.size]? = some (.cells #[.slice A n c, .int .i64 u, .int .i64 e] 24 (0, 0)) := by
    rw [hW1]
    exact ((bel_box _ _).block w.heap.size (by simp)).trans g0
  refine ⟨W1, hW1, by rw [hW1]; exact ((Below.refl _ w).alloc (Nat.le_refl _) _).alloc (by simp) _, by rw [hW1]; simp, bk_cell g1 0, bk_cell g1 1, bk_cell g1 2, ?_⟩
  have h := heap_alloc_new (w.alloc (.cells #[.slice A n c, .int .i64 u, .int .i64 e] 24)) (.cells #[.slice none 0 0, .int .i64 0, .int .i64 0] 41)
  rw [← hW1] at h
  simpa [B3] using h

set_option maxRecDepth 100000 in
set_option maxHeartbeats 4000000 in
theorem made_some (A : Option Addr) (c : Nat) (L : List Rw) (u e : Int) (w : World) (he : Ends w) (hL : L.length ≤ 100000) (hr : Rp w.heap.size w A L) (hA : A = none → c = 0 ∧ L = []) (hc : L.length ≤ c) (hm : c ≤ maxLen) (h : lkE L u e = 0) :
    Calls Tryd.prog 14 #[.agg #[.slice A L.length c, .int .i64 u, .int .i64 e]] w fun x w' => ∃ g A' c', x = .returned (.tuple #[.pointer (some ⟨g, 0, none⟩), .agg #[.slice A' L.length c', .int .i64 u, .int .i64 e], .bool true]) ∧ Tb w.heap.size w' g L u e ∧ Rp w'.heap.size w' A' L ∧ Below w.heap.size w w' := by
  obtain ⟨W1, hW1, b1, s1, c0, c1, c2, z1⟩ := two_box w A L.length c u e
  have q0 := fun op t W x k => guard_ev op t W x k
  have q1 := fun W k => eql_ev W k
  have HN := Lib.hid (new_some A c L u e W1 (he.below b1) hL (hr.keep b1).low hA hc hm h)
  have HD := Lib.hid (fun (W : World) (hb : Below W1.heap.size W1 W) => document_any A c L u e W ((hr.keep b1).low.below hb).low hL)
  have HC := Lib.hid (fun (A' : Option Addr) (c' : Nat) (W : World) (hr' : Rp W.heap.size W A' L) => rcheck10_any A' c' L u e W hr' hL)
  rw [h] at HC
  have HB := Lib.hid b1; have HS := Lib.hid s1; have HZ := Lib.hid z1
  have HX : Hid (∀ W, Below W1.heap.size W1 W → W.cell? ⟨w.heap.size, 0, none⟩ = some (.slice A L.length c) ∧ W.cell? ⟨w.heap.size, 1, none⟩ = some (.int .i64 u) ∧ W.cell? ⟨w.heap.size, 2, none⟩ = some (.int .i64 e)) := Lib.hid fun W hb =>
    ⟨(hb.cell (p := ⟨w.heap.size, 0, none⟩) (show w.heap.size < W1.heap.size by omega)).trans c0, (hb.cell (p := ⟨w.heap.size, 1, none⟩) (show w.heap.size < W1.heap.size by omega)).trans c1, (hb.cell (p := ⟨w.heap.size, 2, none⟩) (show w.heap.size < W1.heap.size by omega)).trans c2⟩
  obtain ⟨N, hN⟩ : ∃ N, L.length = N := ⟨_, rfl⟩
  have HNL := Lib.hid hN
  rw [hN] at c0 hW1 HN HD HC HX ⊢
  clear hr hA hc hm h b1 s1 z1 hN he
  go_enter Tryd.func14, Tryd.ntmps14
  go_upto_region 1 with fail
  rw [← hW1]
  clear hW1
  go_upto_region 2 with (go_at_call 30; refine HN.out.mono ?_; rintro e w2 ⟨g, rfl, hb, ht⟩; have B2 := Lib.hid hb; have T2 := Lib.hid ht; clear hb ht HN)
  obtain ⟨x0, x1, x2⟩ := HX.out w2 B2.out
  clear c0 c1 c2
  go_upto_region 3 with (go_at_call 36; refine (HD.out _ B2.out).mono ?_; rintro e w3 ⟨A', c', rfl, hr, hA, hlo, hb⟩; have B3' := Lib.hid (B2.out.trans (hb.mono B2.out.size)); have T3 := Lib.hid (T2.out.below hb); have R3 := Lib.hid hr; have LO := Lib.hid (fun b off h => Nat.le_trans B2.out.size (hlo b off h)); clear hb hr hA hlo HD x0 x1 x2)
  have b4 := bel_box w3 (.cells #[.slice A' N c', .int .i64 u, .int .i64 e] 41)
  have t4 : B3 (w3.alloc (.cells #[.slice A' N c', .int .i64 u, .int .i64 e] 41)) w3.heap.size (.slice A' N c') (.int .i64 u) (.int .i64 e) := heap_alloc_new w3 _
  have B4 := Lib.hid (B3'.out.trans (b4.mono B3'.out.size))
  have R4 := Lib.hid ((R3.out.below b4).low)
  have TT := Lib.hid (T3.out.below b4)
  have SS := Lib.hid (Nat.le_trans (Nat.le_of_eq HS.out.symm) B3'.out.size)
  generalize w3.alloc (.cells #[.slice A' N c', .int .i64 u, .int .i64 e] 41) = W4 at *
  have Z4 := Lib.hid (HZ.out.below B4.out (show w.heap.size + 1 < W1.heap.size by have := HS.out; omega))
  have hs4 : w3.heap.size < W4.heap.size := bk_lt t4
  have P4 : Hid (∀ W, Below W4.heap.size W4 W → (W.cell? ⟨w3.heap.size, 0, none⟩ = some (.slice A' N c') ∧ W.cell? ⟨w3.heap.size, 1, none⟩ = some (.int .i64 u) ∧ W.cell? ⟨w3.heap.size, 2, none⟩ = some (.int .i64 e)) ∧ B3 W (w.heap.size + 1) (.slice none 0 0) (.int .i64 0) (.int .i64 0)) := Lib.hid fun W hb =>
    ⟨⟨(t4.below hb hs4).c0, (t4.below hb hs4).c1, (t4.below hb hs4).c2⟩, Z4.out.below hb (show w.heap.size + 1 < W4.heap.size by have := SS.out; omega)⟩
  obtain ⟨⟨k0, k1, k2⟩, z4⟩ := P4.out W4 (Below.refl _ _)
  obtain ⟨⟨k0', k1', k2'⟩, z4'⟩ := P4.out W4.drew (Below.refl _ _).drew
  have y0 := z4'.c0
  have y1 := z4'.c1
  have y2 := z4'.c2
  have v0 := z4'.f 0
  have v1 := z4'.f 1
  have v2 := z4'.f 2
  have HCC := Lib.hid (HC.out A' c' W4.drew R4.out)
  clear b4 t4 z4 z4' hs4 HC
  go_region_with (go_at_call 15; refine HCC.out.mono ?_; rintro e w5 ⟨rfl, hb⟩; have hb5 : Below W4.heap.size W4 w5 := (Below.refl _ W4).drew.trans hb; have B5 := Lib.hid hb5; obtain ⟨⟨m0, m1, m2⟩, mz⟩ := P4.out w5 hb5; have n0 := mz.c0; have n1 := mz.c1; have n2 := mz.c2; have n3 := mz.f 0; have n4 := mz.f 1; have n5 := mz.f 2; have MZ := Lib.hid mz; clear hb hb5 mz HCC)
  all_goals
    go_wp2_with fail
    have P9 := MZ.out.put (.slice A' N c') (.int .i64 u) (.int .i64 e)
    have r0 := P9.c0
    have r1 := P9.c1
    have r2 := P9.c2
    have hlo : w.heap.size + 1 < W1.heap.size := by have := HS.out; omega
    have B9 : Below w.heap.size w (((w5.setCell ⟨w.heap.size + 1, 0, none⟩ (.slice A' N c')).setCell ⟨w.heap.size + 1, 1, none⟩ (.int .i64 u)).setCell ⟨w.heap.size + 1, 2, none⟩ (.int .i64 e)) :=
      (((HB.out.trans ((B4.out.trans (B5.out.mono B4.out.size)).mono HB.out.size)).setCell (show w.heap.size ≤ w.heap.size + 1 by omega) _).setCell (show w.heap.size ≤ w.heap.size + 1 by omega) _).setCell (show w.heap.size ≤ w.heap.size + 1 by omega) _
    have T9 : Tb w.heap.size (((w5.setCell ⟨w.heap.size + 1, 0, none⟩ (.slice A' N c')).setCell ⟨w.heap.size + 1, 1, none⟩ (.int .i64 u)).setCell ⟨w.heap.size + 1, 2, none⟩ (.int .i64 e)) g L u e :=
      (((((TT.out.below B5.out).set _ 0 (.slice A' N c') hlo).set _ 1 (.int .i64 u) hlo).set _ 2 (.int .i64 e) hlo)).mono HB.out.size
    have hne : ∀ b off, A' = some ⟨b, off, none⟩ → w.heap.size + 1 ≠ b := fun b off h => by have := LO.out b off h; omega
    have R9 : Rp (((w5.setCell ⟨w.heap.size + 1, 0, none⟩ (.slice A' N c')).setCell ⟨w.heap.size + 1, 1, none⟩ (.int .i64 u)).setCell ⟨w.heap.size + 1, 2, none⟩ (.int .i64 e)).heap.size (((w5.setCell ⟨w.heap.size + 1, 0, none⟩ (.slice A' N c')).setCell ⟨w.heap.size + 1, 1, none⟩ (.int .i64 u)).setCell ⟨w.heap.size + 1, 2, none⟩ (.int .i64 e)) A' L :=
      ((((R4.out.keep B5.out).set _ 0 (.slice A' N c') hne).set _ 1 (.int .i64 u) hne).set _ 2 (.int .i64 e) hne).low
    refine bodyPost_ret (v := .tuple #[.pointer (some ⟨g, 0, none⟩), .agg #[.slice A' N c', .int .i64 u, .int .i64 e], .bool true]) (by simp [results, Tryd.results14, go_sem, r0, r1, r2]) rfl ⟨g, A', c', rfl, T9, R9, B9⟩

set_option maxRecDepth 100000 in
set_option maxHeartbeats 4000000 in
theorem made_no (A : Option Addr) (c : Nat) (L : List Rw) (u e : Int) (w : World) (he : Ends w) (hL : L.length ≤ 100000) (hr : Rp w.heap.size w A L) (hc : L.length ≤ c) (hm : c ≤ maxLen) (h : lkE L u e ≠ 0) :
    Calls Tryd.prog 14 #[.agg #[.slice A L.length c, .int .i64 u, .int .i64 e]] w fun x w' => ∃ A' c', x = .returned (.tuple #[.pointer none, .agg #[.slice A' L.length c', .int .i64 u, .int .i64 e], .bool false]) ∧ Rp w'.heap.size w' A' L ∧ Below w.heap.size w w' := by
  obtain ⟨W1, hW1, b1, s1, c0, c1, c2, z1⟩ := two_box w A L.length c u e
  have HN := Lib.hid (new_no A c L u e W1 (he.below b1) (by omega) (hr.keep b1).low hc hm h)
  generalize lkE L u e = k at *
  have hk : (k == 0) = false := by simpa using h
  have q0 := fun op t W x => guard_ev op t W x k
  have q1 := fun W => eql_ev W k
  rw [hk] at q1
  have HD := Lib.hid (fun (W : World) (hb : Below W1.heap.size W1 W) => document_any A c L u e W ((hr.keep b1).low.below hb).low hL)
  have HB := Lib.hid b1; have HS := Lib.hid s1; have HZ := Lib.hid z1
  have HX : Hid (∀ W, Below W1.heap.size W1 W → W.cell? ⟨w.heap.size, 0, none⟩ = some (.slice A L.length c) ∧ W.cell? ⟨w.heap.size, 1, none⟩ = some (.int .i64 u) ∧ W.cell? ⟨w.heap.size, 2, none⟩ = some (.int .i64 e)) := Lib.hid fun W hb =>
    ⟨(hb.cell (p := ⟨w.heap.size, 0, none⟩) (show w.heap.size < W1.heap.size by omega)).trans c0, (hb.cell (p := ⟨w.heap.size, 1, none⟩) (show w.heap.size < W1.heap.size by omega)).trans c1, (hb.cell (p := ⟨w.heap.size, 2, none⟩) (show w.heap.size < W1.heap.size by omega)).trans c2⟩
  obtain ⟨N, hN⟩ : ∃ N, L.length = N := ⟨_, rfl⟩
  have HNL := Lib.hid hN
  rw [hN] at c0 hW1 HN HD HX ⊢
  clear hr hc hm h b1 s1 z1 hN he hk
  go_enter Tryd.func14, Tryd.ntmps14
  go_upto_region 1 with fail
  rw [← hW1]
  clear hW1
  go_upto_region 2 with (go_at_call 30; refine HN.out.mono ?_; rintro e w2 ⟨rfl, hb⟩; have B2 := Lib.hid hb; clear hb HN)
  obtain ⟨x0, x1, x2⟩ := HX.out w2 B2.out
  clear c0 c1 c2
  go_upto_region 3 with (go_at_call 36; refine (HD.out _ B2.out).mono ?_; rintro e w3 ⟨A', c', rfl, hr, hA, hlo, hb⟩; have B3' := Lib.hid (B2.out.trans (hb.mono B2.out.size)); have R3 := Lib.hid hr; have LO := Lib.hid (fun b off h => Nat.le_trans B2.out.size (hlo b off h)); clear hb hr hA hlo HD x0 x1 x2)
  have b4 := bel_box w3 (.cells #[.slice A' N c', .int .i64 u, .int .i64 e] 41)
  have t4 : B3 (w3.alloc (.cells #[.slice A' N c', .int .i64 u, .int .i64 e] 41)) w3.heap.size (.slice A' N c') (.int .i64 u) (.int .i64 e) := heap_alloc_new w3 _
  have B4 := Lib.hid (B3'.out.trans (b4.mono B3'.out.size))
  have R4 := Lib.hid ((R3.out.below b4).low)
  have SS := Lib.hid (Nat.le_trans (Nat.le_of_eq HS.out.symm) B3'.out.size)
  generalize w3.alloc (.cells #[.slice A' N c', .int .i64 u, .int .i64 e] 41) = W4 at *
  have Z4 := Lib.hid (HZ.out.below B4.out (show w.heap.size + 1 < W1.heap.size by have := HS.out; omega))
  have k0 := t4.c0
  have k1 := t4.c1
  have k2 := t4.c2
  have y0 := Z4.out.c0
  have y1 := Z4.out.c1
  have y2 := Z4.out.c2
  have v0 := Z4.out.f 0
  have v1 := Z4.out.f 1
  have v2 := Z4.out.f 2
  clear b4 t4
  go_region
  all_goals
    go_wp2_with fail
    have P9 := Z4.out.put (.slice A' N c') (.int .i64 u) (.int .i64 e)
    have r0 := P9.c0
    have r1 := P9.c1
    have r2 := P9.c2
    have B9 : Below w.heap.size w (((W4.setCell ⟨w.heap.size + 1, 0, none⟩ (.slice A' N c')).setCell ⟨w.heap.size + 1, 1, none⟩ (.int .i64 u)).setCell ⟨w.heap.size + 1, 2, none⟩ (.int .i64 e)) :=
      (((HB.out.trans (B4.out.mono HB.out.size)).setCell (show w.heap.size ≤ w.heap.size + 1 by omega) _).setCell (show w.heap.size ≤ w.heap.size + 1 by omega) _).setCell (show w.heap.size ≤ w.heap.size + 1 by omega) _
    have hne : ∀ b off, A' = some ⟨b, off, none⟩ → w.heap.size + 1 ≠ b := fun b off h => by have := LO.out b off h; have := HS.out; omega
    have R9 : Rp (((W4.setCell ⟨w.heap.size + 1, 0, none⟩ (.slice A' N c')).setCell ⟨w.heap.size + 1, 1, none⟩ (.int .i64 u)).setCell ⟨w.heap.size + 1, 2, none⟩ (.int .i64 e)).heap.size (((W4.setCell ⟨w.heap.size + 1, 0, none⟩ (.slice A' N c')).setCell ⟨w.heap.size + 1, 1, none⟩ (.int .i64 u)).setCell ⟨w.heap.size + 1, 2, none⟩ (.int .i64 e)) A' L :=
      (((R4.out.set _ 0 (.slice A' N c') hne).set _ 1 (.int .i64 u) hne).set _ 2 (.int .i64 e) hne).low
    refine bodyPost_ret (v := .tuple #[.pointer none, .agg #[.slice A' N c', .int .i64 u, .int .i64 e], .bool false]) (by simp [results, Tryd.results14, go_sem, r0, r1, r2]) rfl ⟨A', c', rfl, R9, B9.drew⟩

end Go.Proofs.YtiamggjebaabkaaDoor
