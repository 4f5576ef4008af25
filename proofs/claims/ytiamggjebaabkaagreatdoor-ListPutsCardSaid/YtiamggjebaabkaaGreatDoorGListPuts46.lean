/- Merged: LeapN, LeapR, ListAS, ListAT. -/
import Derived.Test.YtiamggjebaabkaaGreatDoorGListPuts45
import Derived.BigRegion
import Derived.Test.YtiamggjebaabkaaGreatDoorGListPuts43
import Derived.Deep.RegionHeld3
import Derived.Test.YtiamggjebaabkaaGreatDoorGListPuts34
namespace Go.Proofs.YtiamggjebaabkaaGreatDoor
open Go.RowKit
set_option linter.unusedVariables false
set_option linter.unusedSimpArgs false

theorem two_box (w : World) (A : Option Addr) (n c : Nat) (u e : Int) : ∃ W1, W1 = (w.alloc (.cells #[.slice A n c, .int .i64 u, .int .i64 e] 44)).alloc (.cells #[.slice none 0 0, .int .i64 0, .int .i64 0] 30) ∧ Below w.heap.size w W1 ∧ W1.heap.size = w.heap.size + 1 + 1 ∧
    W1.cell? ⟨w.heap.size, 0, none⟩ = some (.slice A n c) ∧ W1.cell? ⟨w.heap.size, 1, none⟩ = some (.int .i64 u) ∧ W1.cell? ⟨w.heap.size, 2, none⟩ = some (.int .i64 e) ∧ B3 W1 (w.heap.size + 1) (.slice none 0 0) (.int .i64 0) (.int .i64 0) := by
  obtain ⟨W1, hW1⟩ : ∃ W1, W1 = (w.alloc (.cells #[.slice A n c, .int .i64 u, .int .i64 e] 44)).alloc (.cells #[.slice none 0 0, .int .i64 0, .int .i64 0] 30) := ⟨_, rfl⟩
  have g0 : (w.alloc (.cells #[.slice A n c, .int .i64 u, .int .i64 e] 44)).heap[w.heap.size]? = some (.cells #[.slice A n c, .int .i64 u, .int .i64 e] 44 (0, 0)) := heap_alloc_new w _
  have g1 : W1.heap[w.heap.size]? = some (.cells #[.slice A n c, .int .i64 u, .int .i64 e] 44 (0, 0)) := by
    rw [hW1]
    exact ((bel_box _ _).block w.heap.size (by simp)).trans g0
  refine ⟨W1, hW1, by rw [hW1]; exact ((Below.refl _ w).alloc (Nat.le_refl _) _).alloc (by simp) _, by rw [hW1]; simp, bk_cell g1 0, bk_cell g1 1, bk_cell g1 2, ?_⟩
  have h := heap_alloc_new (w.alloc (.cells #[.slice A n c, .int .i64 u, .int .i64 e] 44)) (.cells #[.slice none 0 0, .int .i64 0, .int .i64 0] 30)
  rw [← hW1] at h
  simpa [B3] using h

set_option maxRecDepth 100000 in
set_option maxHeartbeats 4000000 in
theorem made_some (A : Option Addr) (c : Nat) (L : List Rw) (u e : Int) (w : World) (he : Ends w) (hL : L.length ≤ 100000) (hr : Rp w.heap.size w A L) (hA : A = none → c = 0 ∧ L = []) (hc : L.length ≤ c) (hm : c ≤ maxLen) (h : lkE L u e = 0) :
    Calls Tryz.prog 18 #[.agg #[.slice A L.length c, .int .i64 u, .int .i64 e]] w fun x w' => ∃ g A' c', x = .returned (.tuple #[.pointer (some ⟨g, 0, none⟩), .agg #[.slice A' L.length c', .int .i64 u, .int .i64 e], .bool true]) ∧ Tb w.heap.size w' g L u e ∧ Rp w'.heap.size w' A' L ∧ Below w.heap.size w w' := by
  obtain ⟨W1, hW1, b1, s1, c0, c1, c2, z1⟩ := two_box w A L.length c u e
  have q0 := fun op t W x k => guard_ev op t W x k
  have q1 := fun W k => eql_ev W k
  have HN := Lib.hid (new_some A c L u e W1 (he.below b1) hL (hr.keep b1).low hA hc hm h)
  have HD := Lib.hid (fun (W : World) (hb : Below W1.heap.size W1 W) => document_any A c L u e W ((hr.keep b1).low.below hb).low hL)
  have HC := Lib.hid (fun (A' : Option Addr) (c' : Nat) (W : World) (hr' : Rp W.heap.size W A' L) => rcheck10_any A' c' L u e W hr' hL)
  rw [h] at HC
  have HB := Lib.hid b1; have HS := Lib.hid s1; have HZ := Lib.hid z1
  have HX : Hid (∀ W, Below W1.heap.size W1 W → W.cell? ⟨w.heap.size, 0, none⟩ = some (.slice A L.length c) ∧ W.cell? ⟨w.heap.size, 1, none⟩ = some (.int .i64 u) ∧ W.cell? ⟨w.heap.size, 2, none⟩ = some (.int .i64 e)) := Lib.hid fun W hb =>
    ⟨(hb.cell (p := ⟨w.heap.size, 0, none⟩) (show w.heap.size < W1.heap.size by omega)).trans c0, (hb.cell (p := ⟨w.heap.size, 1, none⟩) (show w.heap.size < W1.heap.size by omega)).trans c1, (hb.cell (p := ⟨w.heap.size, 2, none⟩) (show w.heap.size < W1.heap.size by omega)).trans c2⟩
  obtain ⟨N, hN⟩ : ∃ N, L.length = N := ⟨_, rfl⟩
  have HNL := Lib.hid hN
  rw [hN] at c0 hW1 HN HD HC HX ⊢
  clear hr hA hc hm h b1 s1 z1 hN he
  go_enter Tryz.func18, Tryz.ntmps18
  go_upto_region 1 with fail
  rw [← hW1]
  clear hW1
  go_upto_region 2 with (go_at_call 24; refine HN.out.mono ?_; rintro e w2 ⟨g, rfl, hb, ht⟩; have B2 := Lib.hid hb; have T2 := Lib.hid ht; clear hb ht HN)
  obtain ⟨x0, x1, x2⟩ := HX.out w2 B2.out
  clear c0 c1 c2
  go_upto_region 3 with (go_at_call 33; refine (HD.out _ B2.out).mono ?_; rintro e w3 ⟨A', c', rfl, hr, hA, hlo, hb⟩; have B3' := Lib.hid (B2.out.trans (hb.mono B2.out.size)); have T3 := Lib.hid (T2.out.below hb); have R3 := Lib.hid hr; have LO := Lib.hid (fun b off h => Nat.le_trans B2.out.size (hlo b off h)); clear hb hr hA hlo HD x0 x1 x2)
  have b4 := bel_box w3 (.cells #[.slice A' N c', .int .i64 u, .int .i64 e] 30)
  have t4 : B3 (w3.alloc (.cells #[.slice A' N c', .int .i64 u, .int .i64 e] 30)) w3.heap.size (.slice A' N c') (.int .i64 u) (.int .i64 e) := heap_alloc_new w3 _
  have B4 := Lib.hid (B3'.out.trans (b4.mono B3'.out.size))
  have R4 := Lib.hid ((R3.out.below b4).low)
  have TT := Lib.hid (T3.out.below b4)
  have SS := Lib.hid (Nat.le_trans (Nat.le_of_eq HS.out.symm) B3'.out.size)
  generalize w3.alloc (.cells #[.slice A' N c', .int .i64 u, .int .i64 e] 30) = W4 at *
  have Z4 := Lib.hid (HZ.out.below B4.out (show w.heap.size + 1 < W1.heap.size by have := HS.out; omega))
  have hs4 : w3.heap.size < W4.heap.size := bk_lt t4
  have P4 : Hid (∀ W, Below W4.heap.size W4 W → (W.cell? ⟨w3.heap.size, 0, none⟩ = some (.slice A' N c') ∧ W.cell? ⟨w3.heap.size, 1, none⟩ = some (.int .i64 u) ∧ W.cell? ⟨w3.heap.size, 2, none⟩ = some (.int .i64 e)) ∧ B3 W (w.heap.size + 1) (.slice none 0 0) (.int .i64 0) (.int .i64 0)) := Lib.hid fun W hb =>
    ⟨⟨(t4.below hb hs4).c0, (t4.below hb hs4).c1, (t4.below hb hs4).c2⟩, Z4.out.below hb (show w.heap.size + 1 < W4.heap.size by have := SS.out; omega)⟩
  obtain ⟨⟨k0, k1, k2⟩, z4⟩ := P4.out W4 (Below.refl _ _)
  obtain ⟨⟨k0', k1', k2'⟩, z4'⟩ := P4.out W4.drew (Below.refl _ _).drew
  have y0 := z4'.c0
  have y1 := z4'.c1
  have y2 := z4'.c2
  have v0 := z4'.f 0
  have v1 := z4'.f 1
  have v2 := z4'.f 2
  have HCC := Lib.hid (HC.out A' c' W4.drew R4.out)
  clear b4 t4 z4 z4' hs4 HC
  go_region_with (go_at_call 19; refine HCC.out.mono ?_; rintro e w5 ⟨rfl, hb⟩; have hb5 : Below W4.heap.size W4 w5 := (Below.refl _ W4).drew.trans hb; have B5 := Lib.hid hb5; obtain ⟨⟨m0, m1, m2⟩, mz⟩ := P4.out w5 hb5; have n0 := mz.c0; have n1 := mz.c1; have n2 := mz.c2; have n3 := mz.f 0; have n4 := mz.f 1; have n5 := mz.f 2; have MZ := Lib.hid mz; clear hb hb5 mz HCC)
  all_goals
    go_wp2_with fail
    have P9 := MZ.out.put (.slice A' N c') (.int .i64 u) (.int .i64 e)
    have r0 := P9.c0
    have r1 := P9.c1
    have r2 := P9.c2
    have hlo : w.heap.size + 1 < W1.heap.size := by have := HS.out; omega
    have B9 : Below w.heap.size w (((w5.setCell ⟨w.heap.size + 1, 0, none⟩ (.slice A' N c')).setCell ⟨w.heap.size + 1, 1, none⟩ (.int .i64 u)).setCell ⟨w.heap.size + 1, 2, none⟩ (.int .i64 e)) :=
      (((HB.out.trans ((B4.out.trans (B5.out.mono B4.out.size)).mono HB.out.size)).setCell (show w.heap.size ≤ w.heap.size + 1 by omega) _).setCell (show w.heap.size ≤ w.heap.size + 1 by omega) _).setCell (show w.heap.size ≤ w.heap.size + 1 by omega) _
    have T9 : Tb w.heap.size (((w5.setCell ⟨w.heap.size + 1, 0, none⟩ (.slice A' N c')).setCell ⟨w.heap.size + 1, 1, none⟩ (.int .i64 u)).setCell ⟨w.heap.size + 1, 2, none⟩ (.int .i64 e)) g L u e :=
      (((((TT.out.below B5.out).set _ 0 (.slice A' N c') hlo).set _ 1 (.int .i64 u) hlo).set _ 2 (.int .i64 e) hlo)).mono HB.out.size
    have hne : ∀ b off, A' = some ⟨b, off, none⟩ → w.heap.size + 1 ≠ b := fun b off h => by have := LO.out b off h; omega
    have R9 : Rp (((w5.setCell ⟨w.heap.size + 1, 0, none⟩ (.slice A' N c')).setCell ⟨w.heap.size + 1, 1, none⟩ (.int .i64 u)).setCell ⟨w.heap.size + 1, 2, none⟩ (.int .i64 e)).heap.size (((w5.setCell ⟨w.heap.size + 1, 0, none⟩ (.slice A' N c')).setCell ⟨w.heap.size + 1, 1, none⟩ (.int .i64 u)).setCell ⟨w.heap.size + 1, 2, none⟩ (.int .i64 e)) A' L :=
      ((((R4.out.keep B5.out).set _ 0 (.slice A' N c') hne).set _ 1 (.int .i64 u) hne).set _ 2 (.int .i64 e) hne).low
    refine bodyPost_ret (v := .tuple #[.pointer (some ⟨g, 0, none⟩), .agg #[.slice A' N c', .int .i64 u, .int .i64 e], .bool true]) (by simp [results, Tryz.results18, go_sem, r0, r1, r2]) rfl ⟨g, A', c', rfl, T9, R9, B9⟩

set_option maxRecDepth 100000 in
set_option maxHeartbeats 4000000 in
theorem made_no (A : Option Addr) (c : Nat) (L : List Rw) (u e : Int) (w : World) (he : Ends w) (hL : L.length ≤ 100000) (hr : Rp w.heap.size w A L) (hc : L.length ≤ c) (hm : c ≤ maxLen) (h : lkE L u e ≠ 0) :
    Calls Tryz.prog 18 #[.agg #[.slice A L.length c, .int .i64 u, .int .i64 e]] w fun x w' => ∃ A' c', x = .returned (.tuple #[.pointer none, .agg #[.slice A' L.length c', .int .i64 u, .int .i64 e], .bool false]) ∧ Rp w'.heap.size w' A' L ∧ Below w.heap.size w w' := by
  obtain ⟨W1, hW1, b1, s1, c0, c1, c2, z1⟩ := two_box w A L.length c u e
  have HN := Lib.hid (new_no A c L u e W1 (he.below b1) (by omega) (hr.keep b1).low hc hm h)
  generalize lkE L u e = k at *
  have hk : (k == 0) = false := by simpa using h
  have q0 := fun op t W x => guard_ev op t W x k
  have q1 := fun W => eql_ev W k
  rw [hk] at q1
  have HD := Lib.hid (fun (W : World) (hb : Below W1.heap.size W1 W) => document_any A c L u e W ((hr.keep b1).low.below hb).low hL)
  have HB := Lib.hid b1; have HS := Lib.hid s1; have HZ := Lib.hid z1
  have HX : Hid (∀ W, Below W1.heap.size W1 W → W.cell? ⟨w.heap.size, 0, none⟩ = some (.slice A L.length c) ∧ W.cell? ⟨w.heap.size, 1, none⟩ = some (.int .i64 u) ∧ W.cell? ⟨w.heap.size, 2, none⟩ = some (.int .i64 e)) := Lib.hid fun W hb =>
    ⟨(hb.cell (p := ⟨w.heap.size, 0, none⟩) (show w.heap.size < W1.heap.size by omega)).trans c0, (hb.cell (p := ⟨w.heap.size, 1, none⟩) (show w.heap.size < W1.heap.size by omega)).trans c1, (hb.cell (p := ⟨w.heap.size, 2, none⟩) (show w.heap.size < W1.heap.size by omega)).trans c2⟩
  obtain ⟨N, hN⟩ : ∃ N, L.length = N := ⟨_, rfl⟩
  have HNL := Lib.hid hN
  rw [hN] at c0 hW1 HN HD HX ⊢
  clear hr hc hm h b1 s1 z1 hN he hk
  go_enter Tryz.func18, Tryz.ntmps18
  go_upto_region 1 with fail
  rw [← hW1]
  clear hW1
  go_upto_region 2 with (go_at_call 24; refine HN.out.mono ?_; rintro e w2 ⟨rfl, hb⟩; have B2 := Lib.hid hb; clear hb HN)
  obtain ⟨x0, x1, x2⟩ := HX.out w2 B2.out
  clear c0 c1 c2
  go_upto_region 3 with (go_at_call 33; refine (HD.out _ B2.out).mono ?_; rintro e w3 ⟨A', c', rfl, hr, hA, hlo, hb⟩; have B3' := Lib.hid (B2.out.trans (hb.mono B2.out.size)); have R3 := Lib.hid hr; have LO := Lib.hid (fun b off h => Nat.le_trans B2.out.size (hlo b off h)); clear hb hr hA hlo HD x0 x1 x2)
  have b4 := bel_box w3 (.cells #[.slice A' N c', .int .i64 u, .int .i64 e] 30)
  have t4 : B3 (w3.alloc (.cells #[.slice A' N c', .int .i64 u, .int .i64 e] 30)) w3.heap.size (.slice A' N c') (.int .i64 u) (.int .i64 e) := heap_alloc_new w3 _
  have B4 := Lib.hid (B3'.out.trans (b4.mono B3'.out.size))
  have R4 := Lib.hid ((R3.out.below b4).low)
  have SS := Lib.hid (Nat.le_trans (Nat.le_of_eq HS.out.symm) B3'.out.size)
  generalize w3.alloc (.cells #[.slice A' N c', .int .i64 u, .int .i64 e] 30) = W4 at *
  have Z4 := Lib.hid (HZ.out.below B4.out (show w.heap.size + 1 < W1.heap.size by have := HS.out; omega))
  have k0 := t4.c0
  have k1 := t4.c1
  have k2 := t4.c2
  have y0 := Z4.out.c0
  have y1 := Z4.out.c1
  have y2 := Z4.out.c2
  have v0 := Z4.out.f 0
  have v1 := Z4.out.f 1
  have v2 := Z4.out.f 2
  clear b4 t4
  go_region
  all_goals
    go_wp2_with fail
    have P9 := Z4.out.put (.slice A' N c') (.int .i64 u) (.int .i64 e)
    have r0 := P9.c0
    have r1 := P9.c1
    have r2 := P9.c2
    have B9 : Below w.heap.size w (((W4.setCell ⟨w.heap.size + 1, 0, none⟩ (.slice A' N c')).setCell ⟨w.heap.size + 1, 1, none⟩ (.int .i64 u)).setCell ⟨w.heap.size + 1, 2, none⟩ (.int .i64 e)) :=
      (((HB.out.trans (B4.out.mono HB.out.size)).setCell (show w.heap.size ≤ w.heap.size + 1 by omega) _).setCell (show w.heap.size ≤ w.heap.size + 1 by omega) _).setCell (show w.heap.size ≤ w.heap.size + 1 by omega) _
    have hne : ∀ b off, A' = some ⟨b, off, none⟩ → w.heap.size + 1 ≠ b := fun b off h => by have := LO.out b off h; have := HS.out; omega
    have R9 : Rp (((W4.setCell ⟨w.heap.size + 1, 0, none⟩ (.slice A' N c')).setCell ⟨w.heap.size + 1, 1, none⟩ (.int .i64 u)).setCell ⟨w.heap.size + 1, 2, none⟩ (.int .i64 e)).heap.size (((W4.setCell ⟨w.heap.size + 1, 0, none⟩ (.slice A' N c')).setCell ⟨w.heap.size + 1, 1, none⟩ (.int .i64 u)).setCell ⟨w.heap.size + 1, 2, none⟩ (.int .i64 e)) A' L :=
      (((R4.out.set _ 0 (.slice A' N c') hne).set _ 1 (.int .i64 u) hne).set _ 2 (.int .i64 e) hne).low
    refine bodyPost_ret (v := .tuple #[.pointer none, .agg #[.slice A' N c', .int .i64 u, .int .i64 e], .bool false]) (by simp [results, Tryz.results18, go_sem, r0, r1, r2]) rfl ⟨A', c', rfl, R9, B9.drew⟩

end Go.Proofs.YtiamggjebaabkaaGreatDoor

namespace Go.Proofs.YtiamggjebaabkaaGreatDoor
open Go.RowKit
set_option linter.unusedVariables false
set_option linter.unusedSimpArgs false

/-- What a drawn region keeps. -/
structure Kb (W0 W : World) : Prop where
  bel : Below W0.heap.size W0 W
theorem Kb.step {W0 W W' : World} (h : Kb W0 W) (hb : Below W.heap.size W W') : Kb W0 W' := ⟨h.bel.trans (hb.mono h.bel.size)⟩

end Go.Proofs.YtiamggjebaabkaaGreatDoor

namespace Go.Proofs.YtiamggjebaabkaaGreatDoor
open Go.RowKit
set_option linter.unusedVariables false
set_option linter.unusedSimpArgs false

/-- What the program's variables hold. -/
structure S11 (w : World) : Prop where
  ends : Ends w
  tab : Tab w
  eps : Eps w
  start : Start w
  ge : GE w
theorem S11.below {w w' : World} (h : S11 w) (hb : Below w.heap.size w w') : S11 w' := ⟨h.ends.below hb, h.tab.below hb, h.eps.below hb, h.start.below hb, h.ge.below hb⟩
theorem parse11_s (t : ByteArray) (w : World) (h : S11 w) :
    Calls Tryz.prog 8 #[.string t] w fun x w' => ∃ v, x = .returned (.tuple #[v, ev (pZ11 t.data.toList)]) ∧ (pZ11 t.data.toList ≠ 0 → v = .pointer none) ∧
      (pZ11 t.data.toList = 0 → ∃ g, v = .pointer (some ⟨g, 0, none⟩) ∧ Tb 0 w' g (rg11 t.data.toList).L (rg11 t.data.toList).u (rg11 t.data.toList).e) ∧ Below w.heap.size w w' := parse11_all t w h.eps h.ge h.ends h.tab h.start
theorem parse11_yes (t : ByteArray) (w : World) (h : S11 w) (hz : pZ11 t.data.toList = 0) :
    Calls Tryz.prog 8 #[.string t] w fun x w' => ∃ g, x = .returned (.tuple #[.pointer (some ⟨g, 0, none⟩), ev 0]) ∧ Below w.heap.size w w' ∧ Tb 0 w' g (rg11 t.data.toList).L (rg11 t.data.toList).u (rg11 t.data.toList).e :=
  (parse11_s t w h).mono fun x w' ⟨v, k1, k2, k3, k4⟩ => by
    obtain ⟨g, rfl, hg⟩ := k3 hz
    exact ⟨g, by rw [k1, hz], k4, hg⟩
/-- The chapter's example. -/
def ext11 : List UInt8 := [35, 36, 32, 53, 10, 35, 64, 32, 57, 10, 50, 50, 55, 50, 48, 54, 48, 56, 48, 48, 9, 49, 48, 10]
theorem ext_go : go11 (lnL ext11) zr11 = (0, ⟨[⟨730, 10⟩], 5, 9, 1, 1, 0, 0, 0, 0, 0, 0⟩) := by kernel_rfl
theorem exl11_ok : lkE [⟨730, 10⟩] 5 9 = 0 := by
  have one : ∀ {j : Nat}, j < 1 → j = 0 := fun h => by omega
  unfold lkE
  rw [if_neg (by decide), if_neg (by decide), if_neg, if_neg, if_neg (by decide), if_neg]
  · rintro ⟨j, hj, -⟩; simp at hj
  · rintro ⟨j, hj, h⟩
    have := one hj
    subst this
    unfold w2 at h
    rw [show rd [⟨730, 10⟩] 0 = 730 from rfl, d1_is dt730] at h
    exact absurd h (by decide)
  · rintro ⟨j, hj, h⟩
    have := one hj
    subst this
    exact absurd h (by decide)
theorem ext_zero : pZ11 ext11 = 0 ∧ (rg11 ext11).L = [⟨730, 10⟩] := by
  have e1 : rg11 ext11 = ⟨[⟨730, 10⟩], 5, 9, 1, 1, 0, 0, 0, 0, 0, 0⟩ := by unfold rg11; rw [ext_go]
  rw [e1]
  refine ⟨?_, rfl⟩
  unfold pZ11 pE11
  rw [if_pos (by decide), ext_go, if_pos rfl, e1]
  unfold paE11
  rw [if_neg (by decide), if_pos exl11_ok, if_neg (by decide)]
set_option maxRecDepth 100000 in
set_option maxHeartbeats 4000000 in
theorem alive11_any (w : World) (hs : S11 w) : Calls Tryz.prog 7 #[] w fun e w' => e = .returned (.bool true) ∧ Below w.heap.size w w' := by
  have q0 := fun op t W x k => guard_ev op t W x k
  have q1 := fun W k => eql_ev W k
  have q2 := fun W k => neq_ev W k
  have hPa := parse11_yes ⟨ext11.toArray⟩ w hs (by simpa using ext_zero.1)
  rw [show ((⟨ext11.toArray⟩ : ByteArray).data.toList) = ext11 by simp, ext_zero.2] at hPa
  generalize (rg11 ext11).u = u0 at *
  generalize (rg11 ext11).e = e0 at *
  have HPa := Lib.hid hPa
  have hRo := fun (lo g : Nat) (W : World) (h : Tb lo W g [⟨730, 10⟩] u0 e0) => row_any 0 h.v
  rw [show rwD [⟨730, 10⟩] 0 = 730 from rfl, show rwO [⟨730, 10⟩] 0 = 10 from rfl, show rwB [⟨730, 10⟩] 0 = true from rfl] at hRo
  have HRo := Lib.hid hRo
  clear hPa hs hRo
  go_enter Tryz.func7, Tryz.ntmps7
  go_wp2_with fail
  refine HPa.out.mono ?_
  rintro e1 w1 ⟨g, rfl, hb, ht⟩
  have B1 := Lib.hid hb; have T1 := Lib.hid ht
  clear hb ht
  go_wp2_with fail
  refine (HRo.out _ _ _ T1.out).mono ?_
  rintro e2 w2 ⟨rfl, hb⟩
  have B2 := Lib.hid (B1.out.trans (hb.mono B1.out.size))
  clear hb
  go_wp2_with fail
  go_ret
  exact ⟨rfl, B2.out.alloc B2.out.size _⟩

end Go.Proofs.YtiamggjebaabkaaGreatDoor

namespace Go.Proofs.YtiamggjebaabkaaGreatDoor
open Go.RowKit
set_option linter.unusedVariables false
set_option linter.unusedSimpArgs false

theorem raw_new11 (w : World) (A : Option Addr) (n c : Nat) (u e : Int) : ∃ W0, W0 = w.alloc (.cells #[.slice A n c, .int .i64 u, .int .i64 e] 44) ∧ Below w.heap.size w W0 ∧ W0.heap.size = w.heap.size + 1 ∧ W0.heap[w.heap.size]? = some (.cells #[.slice A n c, .int .i64 u, .int .i64 e] 44 (0, 0)) := ⟨_, rfl, bel_box w _, by simp, heap_alloc_new w _⟩
set_option maxHeartbeats 1000000 in
theorem long11_any (A : Option Addr) (n c : Nat) (u e : Int) (w : World) : Calls Tryz.prog 14 #[.agg #[.slice A n c, .int .i64 u, .int .i64 e]] w fun x w' => x = .returned (.bool (decide (296 < n))) ∧ Below w.heap.size w w' := by
  obtain ⟨W0, hW0, b0, s0, g0⟩ := raw_new11 w A n c u e
  have c0 := bk_cell g0 0; have c1 := bk_cell g0 1; have c2 := bk_cell g0 2
  have HB := Lib.hid b0
  clear b0 s0 g0
  by_cases h : 296 < n
  · have hz : (296 : Int) < (n : Int) := by omega
    rw [decide_eq_true h]
    clear h
    go_enter Tryz.func14, Tryz.ntmps14
    go_upto_region 1 with fail
    rw [← hW0]; clear hW0
    go_wp2_with fail
    go_ret
    exact ⟨rfl, HB.out⟩
  · have hz : ¬ (296 : Int) < (n : Int) := by omega
    rw [decide_eq_false h]
    clear h
    go_enter Tryz.func14, Tryz.ntmps14
    go_upto_region 1 with fail
    rw [← hW0]; clear hW0
    go_wp2_with fail
    go_ret
    exact ⟨rfl, HB.out⟩

end Go.Proofs.YtiamggjebaabkaaGreatDoor
