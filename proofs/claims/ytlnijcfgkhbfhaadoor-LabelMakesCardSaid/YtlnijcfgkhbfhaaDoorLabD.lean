/- Package cmp: Compare, Or of three. Package label: At, UTC. -/
import Derived.Test.YtlnijcfgkhbfhaaDoorLabC
import Derived.LoopTactic
namespace Go.Proofs.YtlnijcfgkhbfhaaDoor
open Go.RowKit
set_option linter.unusedVariables false

theorem isnan_any (a : Int) (w : World) : Calls Tryd.prog 55 #[.int .i64 a] w fun e w' => e = .returned (.bool false) ∧ w = w' := by
  go_enter Tryd.func55, Tryd.ntmps55
  go_wp2
  go_ret
  exact ⟨rfl, rfl⟩
theorem isnan_wide (a : Int) (w : World) : Calls Tryd.prog 54 #[.int .i64 a] w fun e w' => e = .returned (.bool false) ∧ w = w' := by
  go_enter Tryd.func54, Tryd.ntmps54
  go_wp2
  go_ret
  exact ⟨rfl, rfl⟩
theorem cmp_any (a b : Int) (w : World) : Calls Tryd.prog 37 #[.int .i64 a, .int .i64 b] w fun e w' => e = .returned (.int .i64 (cp a b)) ∧ w = w' := by
  rcases cp_bd a b with ⟨h, e⟩ | ⟨h, e⟩ | ⟨h, e⟩
  · rw [e]; clear e
    go_enter Tryd.func37, Tryd.ntmps37
    go_wp2_with (go_at_call 55; refine (isnan_any _ _).mono ?_; rintro e w' ⟨rfl, rfl⟩)
    go_ret
    exact ⟨rfl, rfl⟩
  · rw [e]; clear e
    have h1 : ¬ a < b := by omega
    have h2 : a > b := h
    go_enter Tryd.func37, Tryd.ntmps37
    go_wp2_with (go_at_call 55; refine (isnan_any _ _).mono ?_; rintro e w' ⟨rfl, rfl⟩)
    go_ret
    exact ⟨rfl, rfl⟩
  · rw [e]; clear e
    have h1 : ¬ a < b := by omega
    have h2 : ¬ a > b := by omega
    clear h
    go_enter Tryd.func37, Tryd.ntmps37
    go_wp2_with (go_at_call 55; refine (isnan_any _ _).mono ?_; rintro e w' ⟨rfl, rfl⟩)
    go_ret
    exact ⟨rfl, rfl⟩
theorem cmp_wide (a b : Int) (w : World) : Calls Tryd.prog 36 #[.int .i64 a, .int .i64 b] w fun e w' => e = .returned (.int .i64 (cp a b)) ∧ w = w' := by
  rcases cp_bd a b with ⟨h, e⟩ | ⟨h, e⟩ | ⟨h, e⟩
  · rw [e]; clear e
    go_enter Tryd.func36, Tryd.ntmps36
    go_wp2_with (go_at_call 54; refine (isnan_wide _ _).mono ?_; rintro e w' ⟨rfl, rfl⟩)
    go_ret
    exact ⟨rfl, rfl⟩
  · rw [e]; clear e
    have h1 : ¬ a < b := by omega
    have h2 : a > b := h
    go_enter Tryd.func36, Tryd.ntmps36
    go_wp2_with (go_at_call 54; refine (isnan_wide _ _).mono ?_; rintro e w' ⟨rfl, rfl⟩)
    go_ret
    exact ⟨rfl, rfl⟩
  · rw [e]; clear e
    have h1 : ¬ a < b := by omega
    have h2 : ¬ a > b := by omega
    clear h
    go_enter Tryd.func36, Tryd.ntmps36
    go_wp2_with (go_at_call 54; refine (isnan_wide _ _).mono ?_; rintro e w' ⟨rfl, rfl⟩)
    go_ret
    exact ⟨rfl, rfl⟩

/-- The first of three that isn't 0. -/
def or3 (x y z : Int) : Int := if x = 0 then (if y = 0 then z else y) else x
set_option maxHeartbeats 1000000 in
theorem or_any (b : Nat) (x y z : Int) (w : World) (c0 : w.cell? ⟨b, 0, none⟩ = some (.int .i64 x)) (c1 : w.cell? ⟨b, 1, none⟩ = some (.int .i64 y)) (c2 : w.cell? ⟨b, 2, none⟩ = some (.int .i64 z)) :
    Calls Tryd.prog 35 #[.slice (some ⟨b, 0, none⟩) 3 3] w fun e w' => e = .returned (.int .i64 (or3 x y z)) ∧ w = w' := by
  have O : Hid (or3 x y z = if x = 0 then (if y = 0 then z else y) else x) := Lib.hid rfl
  generalize or3 x y z = r at *
  go_enter Tryd.func35, Tryd.ntmps35
  go_wp2
  go_loop [8] (fun a => ∃ k : Int, a = .int .i64 k ∧ 0 ≤ k ∧ k ≤ 3 ∧ Hid ((1 ≤ k → x = 0) ∧ (2 ≤ k → y = 0) ∧ (3 ≤ k → z = 0))) (fun a => (3 - intOf a).toNat)
  case atStart => exact ⟨0, rfl, by omega, by omega, Lib.hid ⟨fun h => by omega, fun h => by omega, fun h => by omega⟩⟩
  case round =>
    obtain ⟨k, rfl, k0, k1, I⟩ := hrel
    rcases (by omega : k = 0 ∨ k = 1 ∨ k = 2 ∨ k = 3) with rfl | rfl | rfl | rfl
    · clear k0 k1 I
      by_cases h : x = 0
      · have h' : (x != 0) = false := by simpa using h
        have H := Lib.hid h; clear h
        go_wp2
        go_round
        case rel => exact ⟨1, rfl, by omega, by omega, Lib.hid ⟨fun _ => H.out, fun h => by omega, fun h => by omega⟩⟩
        case measure => simp [intOf]
      · have h' : (x != 0) = true := bne_iff_ne.2 h
        obtain rfl : r = x := by rw [O.out, if_neg h]
        clear O h
        go_wp2
        go_ret
        exact ⟨rfl, rfl⟩
    · obtain ⟨i0, -, -⟩ := I.out
      have X := Lib.hid (i0 (by omega))
      clear k0 k1 I i0
      by_cases h : y = 0
      · have h' : (y != 0) = false := by simpa using h
        have H := Lib.hid h; clear h
        go_wp2
        go_round
        case rel => exact ⟨2, rfl, by omega, by omega, Lib.hid ⟨fun _ => X.out, fun h => H.out, fun h => by omega⟩⟩
        case measure => simp [intOf]
      · have h' : (y != 0) = true := bne_iff_ne.2 h
        obtain rfl : r = y := by rw [O.out, if_pos X.out, if_neg h]
        clear O h X
        go_wp2
        go_ret
        exact ⟨rfl, rfl⟩
    · obtain ⟨i0, i1, -⟩ := I.out
      have X := Lib.hid (i0 (by omega))
      have Y := Lib.hid (i1 (by omega))
      clear k0 k1 I i0 i1
      by_cases h : z = 0
      · have h' : (z != 0) = false := by simpa using h
        have H := Lib.hid h; clear h
        go_wp2
        go_round
        case rel => exact ⟨3, rfl, by omega, by omega, Lib.hid ⟨fun _ => X.out, fun h => Y.out, fun h => H.out⟩⟩
        case measure => simp [intOf]
      · have h' : (z != 0) = true := bne_iff_ne.2 h
        obtain rfl : r = z := by rw [O.out, if_pos X.out, if_pos Y.out]
        clear O h X Y
        go_wp2
        go_ret
        exact ⟨rfl, rfl⟩
    · obtain ⟨i0, i1, i2⟩ := I.out
      obtain rfl : r = 0 := by rw [O.out, if_pos (i0 (by omega)), if_pos (i1 (by omega)), i2 (by omega)]
      clear k0 k1 I i0 i1 i2 O
      go_wp2
      go_ret
      exact ⟨rfl, rfl⟩

/-! two blocks: an argument's, a result's -/
theorem two_lk (T U : TypeId) (w : World) (l : Lb) :
    Lk T ((w.alloc (.cells l.cells T)).alloc (.cells lb0.cells U)) w.heap.size l ∧ Lk U ((w.alloc (.cells l.cells T)).alloc (.cells lb0.cells U)) (w.heap.size + 1) lb0 ∧ Below w.heap.size w ((w.alloc (.cells l.cells T)).alloc (.cells lb0.cells U)) := by
  have h1 := lk_new T w l
  have h2 := lk_new U (w.alloc (.cells l.cells T)) lb0
  rw [World.size_alloc] at h2
  exact ⟨h1.keep (bel_new _ _), h2, (bel_new w _).alloc (by simp) _⟩

set_option maxRecDepth 100000 in
set_option maxHeartbeats 2000000 in
theorem lat_any (l : Lb) (o : Int) (w : World) (he : Ends w) {L : Lb} (hL : At l o L) :
    Calls Tryd.prog 15 #[.agg l.cells, .int .i64 o] w fun e w' => e = .returned (.tuple #[.agg L.cells, ev (atE l o)]) ∧ Below w.heap.size w w' := by
  obtain ⟨W0, hW0⟩ : ∃ W0, W0 = (w.alloc (.cells l.cells 23)).alloc (.cells #[.int .i64 0, .int .i64 0, .int .i64 0, .int .i64 0, .int .i64 0, .int .i64 0, .int .i64 0, .int .i64 0] 23) := ⟨_, rfl⟩
  obtain ⟨p0, z0, b0⟩ := two_lk 23 23 w l
  rw [show (w.alloc (.cells l.cells 23)).alloc (.cells lb0.cells 23) = W0 from hW0.symm] at p0 z0 b0
  obtain ⟨c0, c1, c2, c3, c4, c5, c6, c7⟩ := p0.all
  have P0 := Lib.hid p0; have Z0 := Lib.hid z0; have B0 := Lib.hid b0
  have E0 := Lib.hid (he.below b0)
  have HS := Lib.hid (lsplit_any l W0 E0.out)
  have q0 := fun op t W x k => guard_ev op t W x k
  have q2 := fun W k => neq_ev W k
  clear p0 z0 b0 he
  rcases hL with ⟨h, hM⟩ | ⟨h, rfl⟩
  · rw [show atE l o = mkE (lbN l) (lbT l) l.n o from if_pos h]
    rw [h] at HS
    have HO := Lib.hid (fun w he => lof_any (lbN l) (lbT l) l.n o w he hM)
    clear hM h
    obtain ⟨y, m, d, h, i, s, n, oo⟩ := L
    change Hid (∀ w, Ends w → Calls _ _ _ _ fun e w' => e = .returned (.tuple #[.agg #[.int .i64 y, .int .i64 m, .int .i64 d, .int .i64 h, .int .i64 i, .int .i64 s, .int .i64 n, .int .i64 oo], _]) ∧ _) at HO
    show Calls _ _ _ _ fun e w' => e = .returned (.tuple #[.agg #[.int .i64 y, .int .i64 m, .int .i64 d, .int .i64 h, .int .i64 i, .int .i64 s, .int .i64 n, .int .i64 oo], _]) ∧ _
    generalize mkE (lbN l) (lbT l) l.n o = E at *
    generalize lbN l = N at *
    generalize lbT l = T at *
    go_enter Tryd.func15, Tryd.ntmps15
    go_upto_region 1 with fail
    rw [← hW0]; clear hW0
    go_wp2_with fail
    refine HS.out.mono ?_
    rintro e w1 ⟨rfl, hb⟩
    have P1 := Lib.hid (P0.out.keep hb); have Z1 := Lib.hid (Z0.out.keep hb)
    have B1 := Lib.hid (B0.out.trans (hb.mono B0.out.size))
    have E1 := Lib.hid (E0.out.below hb)
    clear hb c0 c1 c2 c3 c4 c5 c6 c7
    obtain ⟨c0, c1, c2, c3, c4, c5, c6, c7⟩ := P1.out.all
    go_wp2_with fail
    refine (HO.out _ E1.out).mono ?_
    rintro e w2 ⟨rfl, hb⟩
    have Z2 := Lib.hid (Z1.out.keep hb)
    have B2 := Lib.hid (B1.out.trans (hb.mono B1.out.size))
    clear hb c0 c1 c2 c3 c4 c5 c6 c7
    obtain ⟨f0, f1, f2, f3, f4, f5, f6, f7⟩ := Z2.out.frees
    obtain ⟨c0, c1, c2, c3, c4, c5, c6, c7⟩ := Z2.out.all
    go_wp2_with fail
    have hP := put8_lk Z2.out y m d h i s n oo
    have hB := put8_below B2.out (Nat.le_succ _) y m d h i s n oo
    obtain ⟨W9, hW9⟩ : ∃ W9, W9 = put8 w2 (w.heap.size + 1) y m d h i s n oo := ⟨_, rfl⟩
    rw [← hW9] at hP hB
    show bodyPost _ _ _ _ _ (put8 w2 (w.heap.size + 1) y m d h i s n oo)
    rw [← hW9]
    clear hW9
    obtain ⟨r0, r1, r2, r3, r4, r5, r6, r7⟩ := hP.all
    clear hP
    refine bodyPost_ret (v := .tuple #[.agg #[.int .i64 y, .int .i64 m, .int .i64 d, .int .i64 h, .int .i64 i, .int .i64 s, .int .i64 n, .int .i64 oo], ev E]) (by simp [results, Tryd.results15, go_sem, r0, r1, r2, r3, r4, r5, r6, r7]) rfl ⟨rfl, hB⟩
  · rw [show atE l o = lbE l from if_neg h]
    have h' := ne_z h
    clear h
    show Calls _ _ _ _ fun e w' => e = .returned (.tuple #[.agg #[.int .i64 0, .int .i64 0, .int .i64 0, .int .i64 0, .int .i64 0, .int .i64 0, .int .i64 0, .int .i64 0], _]) ∧ _
    generalize lbE l = E at *
    generalize lbN l = N at *
    generalize lbT l = T at *
    go_enter Tryd.func15, Tryd.ntmps15
    go_upto_region 1 with fail
    rw [← hW0]; clear hW0
    go_wp2_with fail
    refine HS.out.mono ?_
    rintro e w1 ⟨rfl, hb⟩
    have Z1 := Lib.hid (Z0.out.keep hb)
    have B1 := Lib.hid (B0.out.trans (hb.mono B0.out.size))
    clear hb c0 c1 c2 c3 c4 c5 c6 c7
    obtain ⟨f0, f1, f2, f3, f4, f5, f6, f7⟩ := Z1.out.frees
    obtain ⟨c0, c1, c2, c3, c4, c5, c6, c7⟩ := Z1.out.all
    go_wp2_with fail
    have hP := put8_lk Z1.out 0 0 0 0 0 0 0 0
    have hB := put8_below B1.out (Nat.le_succ _) 0 0 0 0 0 0 0 0
    obtain ⟨W9, hW9⟩ : ∃ W9, W9 = put8 w1 (w.heap.size + 1) 0 0 0 0 0 0 0 0 := ⟨_, rfl⟩
    rw [← hW9] at hP hB
    show bodyPost _ _ _ _ _ (put8 w1 (w.heap.size + 1) 0 0 0 0 0 0 0 0)
    rw [← hW9]
    clear hW9
    obtain ⟨r0, r1, r2, r3, r4, r5, r6, r7⟩ := hP.all
    clear hP
    refine bodyPost_ret (v := .tuple #[.agg #[.int .i64 0, .int .i64 0, .int .i64 0, .int .i64 0, .int .i64 0, .int .i64 0, .int .i64 0, .int .i64 0], ev E]) (by simp [results, Tryd.results15, go_sem, r0, r1, r2, r3, r4, r5, r6, r7]) rfl ⟨rfl, hB⟩

end Go.Proofs.YtlnijcfgkhbfhaaDoor
