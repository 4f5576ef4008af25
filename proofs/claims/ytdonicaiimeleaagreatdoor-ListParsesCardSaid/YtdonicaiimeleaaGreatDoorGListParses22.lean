/- Merged: ListBA. -/
import Derived.Test.YtdonicaiimeleaaGreatDoorGListParses21
import Derived.StillTailTactics
namespace Go.Proofs.YtdonicaiimeleaaGreatDoor
open Go.RowKit Go.WideShapes Go.ChangeShapes
set_option linter.unusedVariables false
set_option linter.unusedSimpArgs false

/-- A Read with nothing in it. -/
abbrev zz13 : Array Value := rc13 (.slice none 0 0) 0 0 0 0 0 0 0 0 0 0 0 0
set_option maxRecDepth 100000 in
set_option maxHeartbeats 8000000 in
theorem all_any (t : ByteArray) (w : World) (ht : t.size ≤ 65535) :
    Calls Tryz.prog 9 #[.string t] w fun x w' => ∃ A c K, x = .returned (.agg (rcR A c (alR (lnL t.data.toList) K) (if K < (lnL t.data.toList).length then ((K : Int) + 1) else 0) (if K < (lnL t.data.toList).length then on11 (alR (lnL t.data.toList) K) ((lnL t.data.toList).getD K []) else 0))) ∧ K ≤ (lnL t.data.toList).length ∧ alG (lnL t.data.toList) K ∧ (K < (lnL t.data.toList).length → on11 (alR (lnL t.data.toList) K) ((lnL t.data.toList).getD K []) ≠ 0) ∧ Rp w'.heap.size w' A (alR (lnL t.data.toList) K).L ∧ (A = none → c = 0 ∧ (alR (lnL t.data.toList) K).L = []) ∧ (∀ b off, A = some ⟨b, off, none⟩ → w.heap.size ≤ b) ∧ Below w.heap.size w w' := by
  obtain ⟨W1, hW1, b1, z1, g1⟩ := two13 w (.slice none 0 0) 0 0 0 0 0 0 0 0 0 0 0 0
  have HX := Lib.hid (fun w => lines_any t w (by omega))
  have hlen := lnL_len t.data.toList
  have hall := lnL_all t.data.toList
  have hsz : t.data.toList.length = t.size := by simp
  generalize lnL t.data.toList = ls at *
  obtain ⟨N, hN⟩ : ∃ N, ls.length = N := ⟨_, rfl⟩
  rw [hN]
  have hN2 : N ≤ 65536 := by omega
  have HN := Lib.hid hN
  have HALL : Hid (∀ v ∈ ls, v.length ≤ 100000) := Lib.hid (fun v hv => by have := hall v hv; omega)
  have B1 := Lib.hid b1; have G1 := Lib.hid g1; have Z1 := Lib.hid z1
  have hz : ¬ (t.size : Int) > 65535 := by omega
  have LW : Hid (w.heap.size + 1 < W1.heap.size) := Lib.hid (bk_lt G1.out)
  clear b1 g1 z1 hlen hall hN hsz
  go_enter Tryz.func9, Tryz.ntmps9
  go_upto_region 2 with fail
  rw [← hW1]
  clear hW1
  go_upto_region 6 with (go_at_call 16; refine (HX.out _).mono ?_; rintro e w2 ⟨v2, rfl, hv2, hb⟩; obtain ⟨A8, cq, rfl, -, -⟩ := hv2.reads; rw [HN.out] at hv2 ⊢; have O3 := Lib.hid hv2;  have B3 := Lib.hid (B1.out.trans (hb.mono B1.out.size)); have G3 := Lib.hid (G1.out.keep hb); have Z3 := Lib.hid (Z1.out.keep hb); have L3 : Hid (W1.heap.size ≤ w2.heap.size) := Lib.hid hb.size; clear hb hv2 HX)
  go_wp2
  go_loopg [5] N (fun gg s5 wr => ∃ (K : Nat) (A : Option Addr) (c : Nat), K ≤ N ∧ N - K ≤ gg ∧ s5 = .int .i64 K ∧ Hid (Below w.heap.size w wr) ∧ Hid (B13 wr (w.heap.size + 1) (rcR A c (alR ls K) 0 0)) ∧ Hid (B13 wr w.heap.size zz13) ∧ Hid (Os wr W1.heap.size (.slice A8 N cq) ls) ∧ Hid (alG ls K) ∧ Hid (Rp wr.heap.size wr A (alR ls K).L) ∧ Hid (A = none → c = 0 ∧ (alR ls K).L = []) ∧ Hid (∀ b off, A = some ⟨b, off, none⟩ → W1.heap.size ≤ b) ∧ Hid (W1.heap.size ≤ wr.heap.size))
  case atStart => exact ⟨0, none, 0, by omega, by omega, rfl, B3, G3, Z3, O3, Lib.hid (fun j hj => absurd hj (Nat.not_lt_zero _)), Lib.hid (.inl rfl), Lib.hid (fun _ => ⟨rfl, rfl⟩), Lib.hid (fun b off h => by cases h), L3⟩
  case round =>
    clear B3 G3 Z3 O3 L3
    obtain ⟨K, A, c, hK, hgg, rfl, B5, G5, Z5, O5, T5, R5, N5, X5, LW1⟩ := hrel
    by_cases hlt : K < N
    · have hltz : (K : Int) < (N : Int) := by omega
      have HK := Lib.hid hlt
      have hlt' : K < ls.length := by have := HN.out; omega
      have BD := Lib.hid (al_bd ls K)
      obtain ⟨l, hl⟩ : ∃ l, ls[K]? = some l := ⟨_, List.getElem?_eq_getElem hlt'⟩
      have hlg : ls.getD K [] = l := by rw [List.getD, hl]; rfl
      have HLG := Lib.hid hlg
      have Q8 : ∃ g8, A8 = some ⟨g8, 0, none⟩ := by
        rcases O5.out.2 with ⟨hv, hn⟩ | ⟨g8, cap, cur, hv, -⟩
        · omega
        · injection hv with hv; exact ⟨g8, hv⟩
      obtain ⟨g8, rfl⟩ := Q8
      have C5 : ∀ W, Below wr.heap.size wr W → W.cell? ⟨g8, K, none⟩ = some (.string ⟨l.toArray⟩) := fun W hb => (O5.out.below hb (Nat.le_refl _)).cell hl
      have S5 : ∀ W, Below wr.heap.size wr W → B13 W (w.heap.size + 1) (rcR A c (alR ls K) 0 0) := fun W hb => G5.out.keep hb
      have HC : Hid (∀ W, Below wr.heap.size wr W → Calls Tryz.prog 17 #[.agg (rcR A c (alR ls K) 0 0), .string ⟨l.toArray⟩] W fun x w' => ∃ A' c' r', x = .returned (.tuple #[.agg #[.slice A' r'.L.length c', .int .i64 r'.u, .int .i64 r'.e, .int .i64 r'.m, .int .i64 r'.h, .int .i64 r'.s, .int .u32 r'.x0, .int .u32 r'.x1, .int .u32 r'.x2, .int .u32 r'.x3, .int .u32 r'.x4, .int .i64 0, .int .i64 0], .int .i64 (on11 (alR ls K) l)]) ∧ (on11 (alR ls K) l = 0 → r' = nx11 (alR ls K) l) ∧ Rp w'.heap.size w' A' r'.L ∧ (A' = none → c' = 0 ∧ r'.L = []) ∧ Below W.heap.size W w' ∧ ((A' = A ∧ r'.L = (alR ls K).L) ∨ ∀ b off, A' = some ⟨b, off, none⟩ → W.heap.size ≤ b)) := Lib.hid (fun W hb => by
        have := one_any2 (alR ls K) A c 0 0 ⟨l.toArray⟩ W (by rw [Lib.size_mk]; exact HALL.out l (List.mem_of_getElem? hl)) ((R5.out.below hb).mono hb.size) N5.out (by have := BD.out.1; omega) BD.out.2.1 (by have := BD.out.2.2.1; omega) BD.out.2.2.2.1 (by have := BD.out.2.2.2.2.1; omega) BD.out.2.2.2.2.2
        exact this)
      clear hl hlg hlt'
      go_upto_region 9 with fail
      have S5 := Lib.hid S5
      have C5 := Lib.hid C5
      generalize hrr : alR ls K = r at *
      have HRR := Lib.hid hrr
      clear hrr
      obtain ⟨E, hE⟩ : ∃ E, E = on11 r l := ⟨_, rfl⟩
      rw [← hE] at HC
      have HE := Lib.hid hE
      clear hE
      have LWr : Hid (W1.heap.size ≤ wr.heap.size) := LW1
      go_cut [6, 7] (fun s6 s7 wx => ∃ (q : Nat) (A' : Option Addr) (c' : Nat) (r' : Rd11), s6 = .pointer (some ⟨q, 0, none⟩) ∧ s7 = .int .i64 E ∧ Hid (B13 wx q (rcR A' c' r' 0 0)) ∧ Hid (E = 0 → r' = nx11 r l) ∧ Hid (Rp wx.heap.size wx A' r'.L) ∧ Hid (A' = none → c' = 0 ∧ r'.L = []) ∧ Hid (wr.heap.size ≤ q) ∧ Hid (Below wr.heap.size wr wx) ∧ Hid (∀ b off, A' = some ⟨b, off, none⟩ → W1.heap.size ≤ b))
      case first =>
        refine wp_region_held_drew (S := fun W => Below wr.heap.size wr W) (by kernel_rfl) (Below.refl _ wr).drew (fun hHeld => ?_)
        have BC : Below wr.heap.size wr wr.drew := (Below.refl _ wr).drew
        refine wpAnyH_take (i := 0) (v := .agg (rcR A c r 0 0)) rfl (by kernel_rfl) (by kernel_rfl) (by kernel_rfl) (fun _ _ _ h => h) (Or.inl ⟨by rfl, fun w hSw => by obtain ⟨c0, c1, c2, c3, c4, c5, c6, c7, c8, c9, c10, c11, c12⟩ := (S5.out w hSw).all; go_simp⟩) hHeld ?_
        try simp only [Act.put, List.setIfInBounds_toArray, List.set_cons_zero, List.set_cons_succ, List.getElem_toArray, List.getElem_cons_succ, List.getElem_cons_zero]
        refine wpAnyH_take (i := 1) (v := .slice (some ⟨g8, 0, none⟩) N cq) rfl (by kernel_rfl) (by kernel_rfl) (by kernel_rfl) (fun _ _ _ h => h) (Or.inl ⟨by rfl, fun w hSw => by go_simp⟩) hHeld ?_
        try simp only [Act.put, List.setIfInBounds_toArray, List.set_cons_zero, List.set_cons_succ, List.getElem_toArray, List.getElem_cons_succ, List.getElem_cons_zero]
        refine wpAnyH_take (i := 2) (v := .int .i64 K) rfl (by kernel_rfl) (by kernel_rfl) (by kernel_rfl) (fun _ _ _ h => h) (Or.inl ⟨by rfl, fun w hSw => by go_simp⟩) hHeld ?_
        try simp only [Act.put, List.setIfInBounds_toArray, List.set_cons_zero, List.set_cons_succ, List.getElem_toArray, List.getElem_cons_succ, List.getElem_cons_zero]
        refine wpAnyH_take (i := 3) (v := .pointer (some ⟨g8, K, none⟩)) rfl (by kernel_rfl) (by kernel_rfl) (by kernel_rfl) (fun _ _ _ h => h) (Or.inl ⟨by rfl, fun w hSw => by go_simp⟩) hHeld ?_
        try simp only [Act.put, List.setIfInBounds_toArray, List.set_cons_zero, List.set_cons_succ, List.getElem_toArray, List.getElem_cons_succ, List.getElem_cons_zero]
        refine wpAnyH_take (i := 4) (v := .string ⟨l.toArray⟩) rfl (by kernel_rfl) (by kernel_rfl) (by kernel_rfl) (fun _ _ _ h => h) (Or.inl ⟨by rfl, fun w hSw => by have c13 := C5.out w hSw; go_simp⟩) hHeld ?_
        try simp only [Act.put, List.setIfInBounds_toArray, List.set_cons_zero, List.set_cons_succ, List.getElem_toArray, List.getElem_cons_succ, List.getElem_cons_zero]
        refine wpAnyH_ready (rs := [5, 9]) (by kernel_rfl) (by simp) ?_
        refine AllReadyH.cons rfl (fun Kx hK => ?_) (AllReadyH.cons rfl (fun Kx hK => ?_) AllReadyH.nil)
        · have HK := Lib.hid hK; clear hK
          go_simp
          (go_at_call 17; refine (HC.out _ BC).mono ?_; rintro e w5 ⟨A', c', r', rfl, h1, h2, h3, h4, h5⟩; have H1 := Lib.hid h1; have H2 := Lib.hid h2; have H3 := Lib.hid h3; have H4 := Lib.hid h4; have H5 := Lib.hid h5; have LC : Hid (wr.heap.size ≤ wr.drew.heap.size) := Lib.hid (Nat.le_refl _); have BC : Below wr.heap.size wr w5 := BC.trans (h4.mono BC.size); clear h1 h2 h3 h4 h5)
          refine HK.out _ _ BC (fun hHeld => ?_)
          clear HK Kx
          try simp only [Act.put, List.setIfInBounds_toArray, List.set_cons_zero, List.set_cons_succ, List.getElem_toArray, List.getElem_cons_succ, List.getElem_cons_zero]
          refine wpAnyH_take (i := 6) (v := .tuple #[.agg #[.slice A' r'.L.length c', .int .i64 r'.u, .int .i64 r'.e, .int .i64 r'.m, .int .i64 r'.h, .int .i64 r'.s, .int .u32 r'.x0, .int .u32 r'.x1, .int .u32 r'.x2, .int .u32 r'.x3, .int .u32 r'.x4, .int .i64 0, .int .i64 0], .int .i64 E]) rfl (by kernel_rfl) (by kernel_rfl) (by kernel_rfl) (fun _ _ _ h => h) (Or.inl ⟨by rfl, fun w hSw => by go_simp⟩) hHeld ?_
          try simp only [Act.put, List.setIfInBounds_toArray, List.set_cons_zero, List.set_cons_succ, List.getElem_toArray, List.getElem_cons_succ, List.getElem_cons_zero]
          refine wpAnyH_take (i := 7) (v := .agg #[.slice A' r'.L.length c', .int .i64 r'.u, .int .i64 r'.e, .int .i64 r'.m, .int .i64 r'.h, .int .i64 r'.s, .int .u32 r'.x0, .int .u32 r'.x1, .int .u32 r'.x2, .int .u32 r'.x3, .int .u32 r'.x4, .int .i64 0, .int .i64 0]) rfl (by kernel_rfl) (by kernel_rfl) (by kernel_rfl) (fun _ _ _ h => h) (Or.inl ⟨by rfl, fun w hSw => by go_simp⟩) hHeld ?_
          try simp only [Act.put, List.setIfInBounds_toArray, List.set_cons_zero, List.set_cons_succ, List.getElem_toArray, List.getElem_cons_succ, List.getElem_cons_zero]
          refine wpAnyH_take (i := 8) (v := .int .i64 E) rfl (by kernel_rfl) (by kernel_rfl) (by kernel_rfl) (fun _ _ _ h => h) (Or.inl ⟨by rfl, fun w hSw => by go_simp⟩) hHeld ?_
          try simp only [Act.put, List.setIfInBounds_toArray, List.set_cons_zero, List.set_cons_succ, List.getElem_toArray, List.getElem_cons_succ, List.getElem_cons_zero]
          refine wpAnyH_ready (rs := [9]) (by kernel_rfl) (by simp) ?_
          refine AllReadyH.cons rfl (fun Kx hK => ?_) AllReadyH.nil
          have HK := Lib.hid hK; clear hK
          go_simp
          obtain ⟨Wz, hWz⟩ : ∃ Wz, Wz = World.alloc w5 (.cells zz13 38) := ⟨_, rfl⟩
          rw [← hWz]
          have hb : Below w5.heap.size w5 Wz := by rw [hWz]; exact (Below.refl _ _).alloc (Nat.le_refl _) _
          have Z : Hid (B13 Wz w5.heap.size zz13) := Lib.hid (by rw [hWz]; exact heap_alloc_new w5 _)
          have LQ : Hid (wr.heap.size ≤ w5.heap.size) := Lib.hid BC.size
          have H2z : Rp w5.heap.size Wz A' r'.L := H2.out.below hb
          have BC : Below wr.heap.size wr Wz := BC.trans (hb.mono BC.size)
          clear hb hWz
          obtain ⟨q, hq⟩ : ∃ q, q = w5.heap.size := ⟨_, rfl⟩
          rw [← hq]
          rw [← hq] at Z LQ H2z
          have RQ := Lib.hid (rp_off13 H2z q (Nat.le_refl _))
          clear hq H2z
          refine HK.out _ _ BC (fun hHeld => ?_)
          clear HK Kx
          try simp only [Act.put, List.setIfInBounds_toArray, List.set_cons_zero, List.set_cons_succ, List.getElem_toArray, List.getElem_cons_succ, List.getElem_cons_zero]
          refine wpAnyH_ready (rs := [10]) (by kernel_rfl) (by simp) ?_
          refine AllReadyH.cons rfl (fun Kx hK => ?_) AllReadyH.nil
          have HK := Lib.hid hK; clear hK
          obtain ⟨z0, z1, z2, z3, z4, z5, z6, z7, z8, z9, z10, z11, z12⟩ := Z.out.all
          obtain ⟨y0, y1, y2, y3, y4, y5, y6, y7, y8, y9, y10, y11, y12⟩ := Z.out.frees
          go_simp
          clear z0 z1 z2 z3 z4 z5 z6 z7 z8 z9 z10 z11 z12 y0 y1 y2 y3 y4 y5 y6 y7 y8 y9 y10 y11 y12
          have NB := Z.out.put (.slice A' r'.L.length c') (.int .i64 r'.u) (.int .i64 r'.e) (.int .i64 r'.m) (.int .i64 r'.h) (.int .i64 r'.s) (.int .u32 r'.x0) (.int .u32 r'.x1) (.int .u32 r'.x2) (.int .u32 r'.x3) (.int .u32 r'.x4) (.int .i64 0) (.int .i64 0)
          have BN := put13_below (q := q) BC LQ.out (.slice A' r'.L.length c') (.int .i64 r'.u) (.int .i64 r'.e) (.int .i64 r'.m) (.int .i64 r'.h) (.int .i64 r'.s) (.int .u32 r'.x0) (.int .u32 r'.x1) (.int .u32 r'.x2) (.int .u32 r'.x3) (.int .u32 r'.x4) (.int .i64 0) (.int .i64 0)
          refine HK.out _ _ BN (fun hHeld => ?_)
          clear HK Kx
          try simp only [Act.put, List.setIfInBounds_toArray, List.set_cons_zero, List.set_cons_succ, List.getElem_toArray, List.getElem_cons_succ, List.getElem_cons_zero]
          refine wpAnyH_take (i := 11) (v := .int .i64 E) rfl (by kernel_rfl) (by kernel_rfl) (by kernel_rfl) (fun _ _ _ h => h) (Or.inl ⟨by rfl, fun w hSw => by go_simp⟩) hHeld ?_
          try simp only [Act.put, List.setIfInBounds_toArray, List.set_cons_zero, List.set_cons_succ, List.getElem_toArray, List.getElem_cons_succ, List.getElem_cons_zero]
          refine wpAnyH_done (by kernel_rfl) ?_ _
          have RN := (RQ.out (.slice A' r'.L.length c') (.int .i64 r'.u) (.int .i64 r'.e) (.int .i64 r'.m) (.int .i64 r'.h) (.int .i64 r'.s) (.int .u32 r'.x0) (.int .u32 r'.x1) (.int .u32 r'.x2) (.int .u32 r'.x3) (.int .u32 r'.x4) (.int .i64 0) (.int .i64 0)).low
          have XN : ∀ b off, A' = some ⟨b, off, none⟩ → W1.heap.size ≤ b := fun b off hb => by
            rcases H5.out with ⟨e, -⟩ | e
            · exact X5.out b off (e ▸ hb)
            · exact Nat.le_trans LWr.out (Nat.le_trans LC.out (e b off hb))
          have HB := Lib.hid NB; have HN2 := Lib.hid BN; have HR := Lib.hid RN; have HX := Lib.hid XN
          clear NB BN RN XN BC
          go_wp2_with fail
          go_meet
          exact ⟨q, A', c', r', rfl, rfl, HB, H1, HR, H3, LQ, HN2, HX⟩
        · have HK := Lib.hid hK; clear hK
          go_simp
          obtain ⟨Wz, hWz⟩ : ∃ Wz, Wz = (World.alloc wr (.cells zz13 38)).drew := ⟨_, rfl⟩
          rw [← hWz]
          obtain ⟨q, hq⟩ : ∃ q, q = wr.heap.size := ⟨_, rfl⟩
          rw [← hq]
          have Z : Hid (B13 Wz q zz13) := Lib.hid (by rw [hWz, hq]; exact heap_alloc_new wr _)
          have LQ : Hid (wr.heap.size ≤ q) := Lib.hid (by rw [hq]; exact Nat.le_refl _)
          have QL : Hid (q ≤ wr.heap.size) := Lib.hid (by rw [hq]; exact Nat.le_refl _)
          have BC : Below wr.heap.size wr Wz := by rw [hWz]; exact ((Below.refl _ wr).alloc (Nat.le_refl _) _).drew
          have LC : Hid (wr.heap.size ≤ Wz.heap.size) := Lib.hid BC.size
          have LC2 : Hid (q < Wz.heap.size) := Lib.hid (bk_lt Z.out)
          clear hq hWz
          refine HK.out _ _ BC (fun hHeld => ?_)
          clear HK Kx
          try simp only [Act.put, List.setIfInBounds_toArray, List.set_cons_zero, List.set_cons_succ, List.getElem_toArray, List.getElem_cons_succ, List.getElem_cons_zero]
          refine wpAnyH_ready (rs := [5]) (by kernel_rfl) (by simp) ?_
          refine AllReadyH.cons rfl (fun Kx hK => ?_) AllReadyH.nil
          have HK := Lib.hid hK; clear hK
          go_simp
          (go_at_call 17; refine (HC.out _ BC).mono ?_; rintro e w5 ⟨A', c', r', rfl, h1, h2, h3, h4, h5⟩; have H1 := Lib.hid h1; have H2 := Lib.hid h2; have H3 := Lib.hid h3; have H4 := Lib.hid h4; have H5 := Lib.hid h5; have Z := Lib.hid (Z.out.keep h4); have BC : Below wr.heap.size wr w5 := BC.trans (h4.mono BC.size); clear h1 h2 h3 h4 h5)
          refine HK.out _ _ BC (fun hHeld => ?_)
          clear HK Kx
          try simp only [Act.put, List.setIfInBounds_toArray, List.set_cons_zero, List.set_cons_succ, List.getElem_toArray, List.getElem_cons_succ, List.getElem_cons_zero]
          refine wpAnyH_take (i := 6) (v := .tuple #[.agg #[.slice A' r'.L.length c', .int .i64 r'.u, .int .i64 r'.e, .int .i64 r'.m, .int .i64 r'.h, .int .i64 r'.s, .int .u32 r'.x0, .int .u32 r'.x1, .int .u32 r'.x2, .int .u32 r'.x3, .int .u32 r'.x4, .int .i64 0, .int .i64 0], .int .i64 E]) rfl (by kernel_rfl) (by kernel_rfl) (by kernel_rfl) (fun _ _ _ h => h) (Or.inl ⟨by rfl, fun w hSw => by go_simp⟩) hHeld ?_
          try simp only [Act.put, List.setIfInBounds_toArray, List.set_cons_zero, List.set_cons_succ, List.getElem_toArray, List.getElem_cons_succ, List.getElem_cons_zero]
          refine wpAnyH_take (i := 7) (v := .agg #[.slice A' r'.L.length c', .int .i64 r'.u, .int .i64 r'.e, .int .i64 r'.m, .int .i64 r'.h, .int .i64 r'.s, .int .u32 r'.x0, .int .u32 r'.x1, .int .u32 r'.x2, .int .u32 r'.x3, .int .u32 r'.x4, .int .i64 0, .int .i64 0]) rfl (by kernel_rfl) (by kernel_rfl) (by kernel_rfl) (fun _ _ _ h => h) (Or.inl ⟨by rfl, fun w hSw => by go_simp⟩) hHeld ?_
          try simp only [Act.put, List.setIfInBounds_toArray, List.set_cons_zero, List.set_cons_succ, List.getElem_toArray, List.getElem_cons_succ, List.getElem_cons_zero]
          refine wpAnyH_take (i := 8) (v := .int .i64 E) rfl (by kernel_rfl) (by kernel_rfl) (by kernel_rfl) (fun _ _ _ h => h) (Or.inl ⟨by rfl, fun w hSw => by go_simp⟩) hHeld ?_
          try simp only [Act.put, List.setIfInBounds_toArray, List.set_cons_zero, List.set_cons_succ, List.getElem_toArray, List.getElem_cons_succ, List.getElem_cons_zero]
          have RQ : Hid (∀ a0 a1 a2 a3 a4 a5 a6 a7 a8 a9 a10 a11 a12 : Value, Rp w5.heap.size (put13 w5 q a0 a1 a2 a3 a4 a5 a6 a7 a8 a9 a10 a11 a12) A' r'.L) := Lib.hid (fun a0 a1 a2 a3 a4 a5 a6 a7 a8 a9 a10 a11 a12 => by
            rcases H5.out with ⟨e, e2⟩ | e
            · have hr := ((R5.out.below BC).mono LQ.out : Rp q w5 A r.L)
              rw [e, e2]
              exact (rp_off13 hr q (Nat.le_refl _) ..).mono (Nat.le_of_lt (bk_lt Z.out))
            · exact rp_put13 H2.out q (fun b off hb => by have := e b off hb; have := LC2.out; omega) ..)
          refine wpAnyH_ready (rs := [10]) (by kernel_rfl) (by simp) ?_
          refine AllReadyH.cons rfl (fun Kx hK => ?_) AllReadyH.nil
          have HK := Lib.hid hK; clear hK
          obtain ⟨z0, z1, z2, z3, z4, z5, z6, z7, z8, z9, z10, z11, z12⟩ := Z.out.all
          obtain ⟨y0, y1, y2, y3, y4, y5, y6, y7, y8, y9, y10, y11, y12⟩ := Z.out.frees
          go_simp
          clear z0 z1 z2 z3 z4 z5 z6 z7 z8 z9 z10 z11 z12 y0 y1 y2 y3 y4 y5 y6 y7 y8 y9 y10 y11 y12
          have NB := Z.out.put (.slice A' r'.L.length c') (.int .i64 r'.u) (.int .i64 r'.e) (.int .i64 r'.m) (.int .i64 r'.h) (.int .i64 r'.s) (.int .u32 r'.x0) (.int .u32 r'.x1) (.int .u32 r'.x2) (.int .u32 r'.x3) (.int .u32 r'.x4) (.int .i64 0) (.int .i64 0)
          have BN := put13_below (q := q) BC LQ.out (.slice A' r'.L.length c') (.int .i64 r'.u) (.int .i64 r'.e) (.int .i64 r'.m) (.int .i64 r'.h) (.int .i64 r'.s) (.int .u32 r'.x0) (.int .u32 r'.x1) (.int .u32 r'.x2) (.int .u32 r'.x3) (.int .u32 r'.x4) (.int .i64 0) (.int .i64 0)
          refine HK.out _ _ BN (fun hHeld => ?_)
          clear HK Kx
          try simp only [Act.put, List.setIfInBounds_toArray, List.set_cons_zero, List.set_cons_succ, List.getElem_toArray, List.getElem_cons_succ, List.getElem_cons_zero]
          refine wpAnyH_take (i := 11) (v := .int .i64 E) rfl (by kernel_rfl) (by kernel_rfl) (by kernel_rfl) (fun _ _ _ h => h) (Or.inl ⟨by rfl, fun w hSw => by go_simp⟩) hHeld ?_
          try simp only [Act.put, List.setIfInBounds_toArray, List.set_cons_zero, List.set_cons_succ, List.getElem_toArray, List.getElem_cons_succ, List.getElem_cons_zero]
          refine wpAnyH_done (by kernel_rfl) ?_ _
          have RN := (RQ.out (.slice A' r'.L.length c') (.int .i64 r'.u) (.int .i64 r'.e) (.int .i64 r'.m) (.int .i64 r'.h) (.int .i64 r'.s) (.int .u32 r'.x0) (.int .u32 r'.x1) (.int .u32 r'.x2) (.int .u32 r'.x3) (.int .u32 r'.x4) (.int .i64 0) (.int .i64 0)).low
          have XN : ∀ b off, A' = some ⟨b, off, none⟩ → W1.heap.size ≤ b := fun b off hb => by
            rcases H5.out with ⟨e, -⟩ | e
            · exact X5.out b off (e ▸ hb)
            · exact Nat.le_trans LWr.out (Nat.le_trans LC.out (e b off hb))
          have HB := Lib.hid NB; have HN2 := Lib.hid BN; have HR := Lib.hid RN; have HX := Lib.hid XN
          clear NB BN RN XN BC
          go_wp2_with fail
          go_meet
          exact ⟨q, A', c', r', rfl, rfl, HB, H1, HR, H3, LQ, HN2, HX⟩
      case rest =>
        obtain ⟨q, A', c', r', rfl, rfl, NB, H1, HR, H3, LQ, BX, XN⟩ := hcut
        clear HC S5 C5
        have GX := Lib.hid (G5.out.keep BX.out)
        have ZX := Lib.hid (Z5.out.keep BX.out)
        have OX := Lib.hid (O5.out.below BX.out (Nat.le_refl _))
        have BW := Lib.hid (B5.out.trans (BX.out.mono B5.out.size))
        have RX := Lib.hid ((R5.out.below BX.out).mono BX.out.size)
        have LG := Lib.hid (bk_lt G5.out)
        clear G5 Z5 O5 B5 R5
        obtain ⟨c0, c1, c2, c3, c4, c5, c6, c7, c8, c9, c10, c11, c12⟩ := GX.out.all
        obtain ⟨f0, f1, f2, f3, f4, f5, f6, f7, f8, f9, f10, f11, f12⟩ := GX.out.frees
        by_cases hE0 : E = 0
        · subst hE0
          obtain ⟨n0, n1, n2, n3, n4, n5, n6, n7, n8, n9, n10, n11, n12⟩ := NB.out.all
          have hne : q ≠ w.heap.size + 1 := by have := LG.out; have := LQ.out; omega
          have hne2 : w.heap.size + 1 ≠ q := Ne.symm hne
          go_wp2_with fail
          clear c0 c1 c2 c3 c4 c5 c6 c7 c8 c9 c10 c11 c12 f0 f1 f2 f3 f4 f5 f6 f7 f8 f9 f10 f11 f12 n0 n1 n2 n3 n4 n5 n6 n7 n8 n9 n10 n11 n12
          obtain ⟨W9, hW9⟩ : ∃ W9, W9 = put13 wc (w.heap.size + 1) (.slice A' r'.L.length c') (.int .i64 r'.u) (.int .i64 r'.e) (.int .i64 r'.m) (.int .i64 r'.h) (.int .i64 r'.s) (.int .u32 r'.x0) (.int .u32 r'.x1) (.int .u32 r'.x2) (.int .u32 r'.x3) (.int .u32 r'.x4) (.int .i64 0) (.int .i64 0) := ⟨_, rfl⟩
          have G9 : Hid (B13 W9 (w.heap.size + 1) (rcR A' c' r' 0 0)) := Lib.hid (by rw [hW9]; exact GX.out.put (.slice A' r'.L.length c') (.int .i64 r'.u) (.int .i64 r'.e) (.int .i64 r'.m) (.int .i64 r'.h) (.int .i64 r'.s) (.int .u32 r'.x0) (.int .u32 r'.x1) (.int .u32 r'.x2) (.int .u32 r'.x3) (.int .u32 r'.x4) (.int .i64 0) (.int .i64 0))
          have Z9 : Hid (B13 W9 w.heap.size zz13) := Lib.hid (by rw [hW9]; exact ZX.out.farz (by omega) (.slice A' r'.L.length c') (.int .i64 r'.u) (.int .i64 r'.e) (.int .i64 r'.m) (.int .i64 r'.h) (.int .i64 r'.s) (.int .u32 r'.x0) (.int .u32 r'.x1) (.int .u32 r'.x2) (.int .u32 r'.x3) (.int .u32 r'.x4) (.int .i64 0) (.int .i64 0))
          have B9 : Hid (Below w.heap.size w W9) := Lib.hid (by rw [hW9]; exact put13_below BW.out (Nat.le_succ _) (.slice A' r'.L.length c') (.int .i64 r'.u) (.int .i64 r'.e) (.int .i64 r'.m) (.int .i64 r'.h) (.int .i64 r'.s) (.int .u32 r'.x0) (.int .u32 r'.x1) (.int .u32 r'.x2) (.int .u32 r'.x3) (.int .u32 r'.x4) (.int .i64 0) (.int .i64 0))
          have R9 : Hid (Rp W9.heap.size W9 A' r'.L) := Lib.hid (by rw [hW9]; exact (rp_put13 HR.out (w.heap.size + 1) (fun b off hb => by have := XN.out b off hb; have := LW.out; omega) (.slice A' r'.L.length c') (.int .i64 r'.u) (.int .i64 r'.e) (.int .i64 r'.m) (.int .i64 r'.h) (.int .i64 r'.s) (.int .u32 r'.x0) (.int .u32 r'.x1) (.int .u32 r'.x2) (.int .u32 r'.x3) (.int .u32 r'.x4) (.int .i64 0) (.int .i64 0)).low)
          have B9w : Below W1.heap.size wc W9 → True := fun _ => trivial
          have O9 : Hid (Os W9 W1.heap.size (.slice (some ⟨g8, 0, none⟩) N cq) ls) := Lib.hid (by rw [hW9]; exact os_put13 OX.out (by have := LW.out; omega) (.slice A' r'.L.length c') (.int .i64 r'.u) (.int .i64 r'.e) (.int .i64 r'.m) (.int .i64 r'.h) (.int .i64 r'.s) (.int .u32 r'.x0) (.int .u32 r'.x1) (.int .u32 r'.x2) (.int .u32 r'.x3) (.int .u32 r'.x4) (.int .i64 0) (.int .i64 0))
          have L9 : Hid (W1.heap.size ≤ W9.heap.size) := Lib.hid (Nat.le_trans LWr.out (by rw [hW9, size_put13]; exact BX.out.size))
          unfold put13 at hW9
          rw [← hW9]
          go_roundg (N - (K + 1))
          case measure => omega
          case rel =>
            have hn : alR ls (K + 1) = r' := by show nx11 (alR ls K) (ls.getD K []) = r'; rw [HRR.out, HLG.out]; exact (H1.out (by first | exact rfl | exact trivial)).symm
            refine ⟨K + 1, A', c', HK.out, Nat.le_refl _, by go_num, B9, ?_, Z9, O9, ?_, ?_, ?_, XN, L9⟩
            · rw [hn]; exact G9
            · exact Lib.hid (fun j hj => by
                by_cases hjj : j < K
                · exact T5.out j hjj
                · obtain rfl : j = K := by omega
                  show on11 (alR ls j) (ls.getD j []) = 0
                  rw [HRR.out, HLG.out]
                  exact HE.out.symm)
            · rw [hn]; exact R9
            · rw [hn]; exact H3
        · have hEb : (E != 0) = true := bne_iff_ne.mpr hE0
          obtain ⟨d0, d1, d2, d3, d4, d5, d6, d7, d8, d9, d10, d11, d12⟩ := ZX.out.all
          obtain ⟨p0, p1, p2, p3, p4, p5, p6, p7, p8, p9, p10, p11, p12⟩ := ZX.out.frees
          have hEE := Lib.hid hE0
          clear hE0
          go_wp2_with fail
          clear d0 d1 d2 d3 d4 d5 d6 d7 d8 d9 d10 d11 d12 p0 p1 p2 p3 p4 p5 p6 p7 p8 p9 p10 p11 p12
          have ZV : B13 ((wc.setCell ⟨w.heap.size + 1, 11, none⟩ (.int .i64 ((K : Int) + 1))).setCell ⟨w.heap.size + 1, 12, none⟩ (.int .i64 E)) w.heap.size zz13 := (ZX.out.far1 (by omega) 11 _).far1 (by omega) 12 _
          have rr := ZV.put (.slice A r.L.length c) (.int .i64 r.u) (.int .i64 r.e) (.int .i64 r.m) (.int .i64 r.h) (.int .i64 r.s) (.int .u32 r.x0) (.int .u32 r.x1) (.int .u32 r.x2) (.int .u32 r.x3) (.int .u32 r.x4) (.int .i64 ((K : Int) + 1)) (.int .i64 E)
          have BV := put13_below (q := w.heap.size) ((BW.out.setCell (p := ⟨w.heap.size + 1, 11, none⟩) (Nat.le_succ _) (.int .i64 ((K : Int) + 1))).setCell (p := ⟨w.heap.size + 1, 12, none⟩) (Nat.le_succ _) (.int .i64 E)) (Nat.le_refl _) (.slice A r.L.length c) (.int .i64 r.u) (.int .i64 r.e) (.int .i64 r.m) (.int .i64 r.h) (.int .i64 r.s) (.int .u32 r.x0) (.int .u32 r.x1) (.int .u32 r.x2) (.int .u32 r.x3) (.int .u32 r.x4) (.int .i64 ((K : Int) + 1)) (.int .i64 E)
          have ne1 : ∀ b off, A = some ⟨b, off, none⟩ → w.heap.size + 1 ≠ b := fun b off hb => by have := X5.out b off hb; have := LW.out; omega
          have ne0 : ∀ b off, A = some ⟨b, off, none⟩ → w.heap.size ≠ b := fun b off hb => by have := X5.out b off hb; have := LW.out; omega
          have RV := (rp_put13 ((RX.out.set (w.heap.size + 1) 11 (.int .i64 ((K : Int) + 1)) ne1).set (w.heap.size + 1) 12 (.int .i64 E) ne1) w.heap.size ne0 (.slice A r.L.length c) (.int .i64 r.u) (.int .i64 r.e) (.int .i64 r.m) (.int .i64 r.h) (.int .i64 r.s) (.int .u32 r.x0) (.int .u32 r.x1) (.int .u32 r.x2) (.int .u32 r.x3) (.int .u32 r.x4) (.int .i64 ((K : Int) + 1)) (.int .i64 E)).low
          obtain ⟨r0, r1, r2, r3, r4, r5, r6, r7, r8, r9, r10, r11, r12⟩ := rr.all
          refine bodyPost_ret (v := .agg (rcR A c r ((K : Int) + 1) E)) (by simp [results, Tryz.results9, go_sem, r0, r1, r2, r3, r4, r5, r6, r7, r8, r9, r10, r11, r12]) rfl ⟨A, c, K, ?_, Nat.le_of_lt HK.out, T5.out, ?_, ?_, ?_, (fun b off hb => by have := X5.out b off hb; have := LW.out; omega), BV⟩
          · rw [if_pos HK.out, if_pos HK.out, HRR.out, HLG.out, ← HE.out]
          · rw [HRR.out, HLG.out, ← HE.out]; exact fun _ => hEE.out
          · rw [HRR.out]; exact RV
          · rw [HRR.out]; exact N5.out
    · obtain rfl : K = N := by omega
      generalize hrr : alR ls K = r at *
      have HRR := Lib.hid hrr
      clear hrr
      obtain ⟨c0, c1, c2, c3, c4, c5, c6, c7, c8, c9, c10, c11, c12⟩ := G5.out.all
      obtain ⟨d0, d1, d2, d3, d4, d5, d6, d7, d8, d9, d10, d11, d12⟩ := Z5.out.all
      obtain ⟨p0, p1, p2, p3, p4, p5, p6, p7, p8, p9, p10, p11, p12⟩ := Z5.out.frees
      go_wp2_with fail
      clear c0 c1 c2 c3 c4 c5 c6 c7 c8 c9 c10 c11 c12 d0 d1 d2 d3 d4 d5 d6 d7 d8 d9 d10 d11 d12 p0 p1 p2 p3 p4 p5 p6 p7 p8 p9 p10 p11 p12
      have rr := Z5.out.put (.slice A r.L.length c) (.int .i64 r.u) (.int .i64 r.e) (.int .i64 r.m) (.int .i64 r.h) (.int .i64 r.s) (.int .u32 r.x0) (.int .u32 r.x1) (.int .u32 r.x2) (.int .u32 r.x3) (.int .u32 r.x4) (.int .i64 0) (.int .i64 0)
      have BV := put13_below (q := w.heap.size) B5.out (Nat.le_refl _) (.slice A r.L.length c) (.int .i64 r.u) (.int .i64 r.e) (.int .i64 r.m) (.int .i64 r.h) (.int .i64 r.s) (.int .u32 r.x0) (.int .u32 r.x1) (.int .u32 r.x2) (.int .u32 r.x3) (.int .u32 r.x4) (.int .i64 0) (.int .i64 0)
      have ne0 : ∀ b off, A = some ⟨b, off, none⟩ → w.heap.size ≠ b := fun b off hb => by have := X5.out b off hb; have := LW.out; omega
      have RV := (rp_put13 R5.out w.heap.size ne0 (.slice A r.L.length c) (.int .i64 r.u) (.int .i64 r.e) (.int .i64 r.m) (.int .i64 r.h) (.int .i64 r.s) (.int .u32 r.x0) (.int .u32 r.x1) (.int .u32 r.x2) (.int .u32 r.x3) (.int .u32 r.x4) (.int .i64 0) (.int .i64 0)).low
      obtain ⟨r0, r1, r2, r3, r4, r5, r6, r7, r8, r9, r10, r11, r12⟩ := rr.all
      refine bodyPost_ret (v := .agg (rcR A c r 0 0)) (by simp [results, Tryz.results9, go_sem, r0, r1, r2, r3, r4, r5, r6, r7, r8, r9, r10, r11, r12]) rfl ⟨A, c, K, ?_, Nat.le_refl _, T5.out, fun h => absurd h (Nat.lt_irrefl _), ?_, ?_, (fun b off hb => by have := X5.out b off hb; have := LW.out; omega), BV⟩
      · rw [if_neg (Nat.lt_irrefl _), if_neg (Nat.lt_irrefl _), HRR.out]
      · rw [HRR.out]; exact RV
      · rw [HRR.out]; exact N5.out

end Go.Proofs.YtdonicaiimeleaaGreatDoor
