/- The document's answer for tables of leap seconds: Next, Same. -/
import Derived.Test.YtaahfkkcjfpieaaDoorLeapG
import Derived.Test.YtaahfkkcjfpieaaDoorLeapD
import Derived.Test.YtaahfkkcjfpieaaDoorLeapF
namespace Go.Proofs.YtaahfkkcjfpieaaDoor
open Go.RowKit
set_option linter.unusedVariables false
set_option linter.unusedSimpArgs false

theorem nxt_hit {L : List Rw} {n : Int} {i : Nat} (hi : i < L.length) (h : nx L n = i) : nxD L n = rd L i - 1 ∧ nxK L n = ro L i - ro L (i - 1) ∧ nxB L n = true := by
  unfold nxD nxK nxB
  rw [h, if_pos hi, if_pos hi, decide_eq_true hi]
  exact ⟨rfl, rfl, rfl⟩
theorem nxt_miss {L : List Rw} {n : Int} (h : ¬ nx L n < L.length) : nxD L n = 0 ∧ nxK L n = 0 ∧ nxB L n = false := by
  unfold nxD nxK nxB
  rw [if_neg h, if_neg h, decide_eq_false h]
  exact ⟨rfl, rfl, rfl⟩

set_option maxHeartbeats 4000000 in
theorem rnext_any (A : Option Addr) (c : Nat) (L : List Rw) (u e n : Int) (w : World) (hr : Rp w.heap.size w A L) (V : Vr L) (hL : L.length ≤ 100000) :
    Calls Tryd.prog 24 #[.agg #[.slice A L.length c, .int .i64 u, .int .i64 e], .int .i64 n] w fun x w' => x = .returned (.tuple #[.int .i64 (nxD L n), .int .i64 (nxK L n), .bool (nxB L n)]) ∧ Below w.heap.size w w' := by
  obtain ⟨W0, hW0, hb, hs, c0, c1, c2⟩ := dbox w A L.length c u e
  have HR := Lib.hid (hr.keep hb); have HB := Lib.hid hb
  obtain ⟨N, hN⟩ : ∃ N, L.length = N := ⟨_, rfl⟩
  rw [hN] at c0 hL hW0 ⊢
  have HN := Lib.hid hN
  clear hr hb hs c1 c2 hN
  go_enter Tryd.func24, Tryd.ntmps24
  go_upto_region 1 with fail
  rw [← hW0]
  clear hW0
  go_wp2
  have HV := Lib.hid V
  clear V
  go_loopg [7] N (fun gg s5 wr => ∃ k : Nat, N - k ≤ gg ∧ s5 = .int .i64 ((k : Int) + 1) ∧ wr = W0 ∧ Hid (∀ i, 1 ≤ i → i < k + 1 → ¬ n < rd L i))
  case atStart => exact ⟨0, by omega, rfl, rfl, Lib.hid fun i h1 h2 => by omega⟩
  case round =>
    obtain ⟨k, hg, rfl, rfl, F⟩ := hrel
    by_cases hlt : k + 1 < N
    · have hltz : (k : Int) + 1 < (N : Int) := by omega
      have hltz0 : (k : Int) < (N : Int) := by omega
      have hkz : (0 : Int) ≤ (k : Int) := by omega
      have hkb : (k : Int) ≤ 100000 := by omega
      have e1 : ((k : Int) + 1).toNat = k + 1 := by omega
      have HK := Lib.hid hlt
      obtain ⟨b, off, rfl, -, -, hc⟩ := HR.out.pos (by have := HN.out; omega)
      obtain ⟨d1, d2⟩ := hc (k + 1) (by have := HN.out; omega)
      obtain ⟨d3, d4⟩ := hc k (by have := HN.out; omega)
      have q0 := HV.out.day (k + 1) (by have := HN.out; omega)
      have o0 := HV.out.off (k + 1) (by have := HN.out; omega)
      have o1 := HV.out.off k (by have := HN.out; omega)
      have i0 : IntKind.i64.wrap ((k : Int) + 1 - 1) = (k : Int) := by rw [show (k : Int) + 1 - 1 = k by omega]; exact IntWalk.i64_in _ (by omega)
      have i1 : IntKind.i64.wrap (rd L (k + 1) - 1) = rd L (k + 1) - 1 := IntWalk.i64_in _ (by omega)
      have i2 : IntKind.i64.wrap (ro L (k + 1) - ro L k) = ro L (k + 1) - ro L k := IntWalk.i64_in _ (by omega)
      have q1 := q0.1
      have q2 := q0.2
      clear hc HR q0 o0 o1
      by_cases h : rd L (k + 1) - 1 ≥ n
      · have E := Lib.hid (nxt_hit (i := k + 1) (by have := HN.out; have := HK.out; omega) (nx_hit HV.out (by omega) (by have := HN.out; have := HK.out; omega) (by omega) F.out))
        go_wp2
        go_quiet (fail)
        go_wp2
        (try simp only [Exit.inBlock, Exit.then])
        refine bodyPost_ret (results_tmp3 rfl _ _ _) rfl ?_
        exact ⟨ret3_eq (int_eq E.out.1.symm) (int_eq E.out.2.1.symm) (bool_eq E.out.2.2.symm), HB.out.trans (drewN_below _ _ _)⟩
      · have H := Lib.hid h
        go_wp2
        go_roundg (N - (k + 1))
        case measure => omega
        case rel =>
          refine ⟨k + 1, by omega, by go_num, rfl, Lib.hid fun i h1 h2 => ?_⟩
          by_cases e : i = k + 1
          · subst e
            have := H.out
            omega
          · exact F.out i h1 (by omega)
    · have hltz : ¬ (k : Int) + 1 < (N : Int) := by omega
      have HK := Lib.hid hlt
      have E := Lib.hid (nxt_miss (nx_miss HV.out (n := n) fun i h1 h2 => F.out i h1 (by have := HN.out; have := HK.out; omega)))
      go_wp2
      (try simp only [Exit.inBlock, Exit.then])
      refine bodyPost_ret (results_tmp3 rfl _ _ _) rfl ?_
      exact ⟨ret3_eq (int_eq E.out.1.symm) (int_eq E.out.2.1.symm) (bool_eq E.out.2.2.symm), HB.out⟩

theorem smB_len {L M : List Rw} {u e x y : Int} (h : L.length ≠ M.length) : smB L u e M x y = false := by unfold smB; rw [eqL_len h, Bool.and_false]
theorem smB_u {L M : List Rw} {u e x y : Int} (h : u ≠ x) : smB L u e M x y = false := by unfold smB; rw [show (u == x) = false by simpa using h]; rfl
theorem smB_e {L M : List Rw} {u e x y : Int} (h : e ≠ y) : smB L u e M x y = false := by unfold smB; rw [show (e == y) = false by simpa using h, Bool.and_false]; rfl
theorem smB_at {L M : List Rw} {u e x y : Int} {j : Nat} (h : (rd L j == rd M j && ro L j == ro M j) = false) : smB L u e M x y = false := by unfold smB; rw [eqL_at h, Bool.and_false]
theorem smB_all {L M : List Rw} {u e : Int} (h : L.length = M.length) (hj : ∀ j, j < L.length → (rd L j == rd M j && ro L j == ro M j) = true) : smB L u e M u e = true := by unfold smB; rw [eqL_all h hj]; simp

set_option maxHeartbeats 4000000 in
theorem rsame_any (A A' : Option Addr) (c c' : Nat) (L M : List Rw) (u e x y : Int) (w : World) (hr : Rp w.heap.size w A L) (hs : Rp w.heap.size w A' M) (hL : L.length ≤ 100000) (hM : M.length ≤ 100000) :
    Calls Tryd.prog 29 #[.agg #[.slice A L.length c, .int .i64 u, .int .i64 e], .agg #[.slice A' M.length c', .int .i64 x, .int .i64 y]] w fun r w' => r = .returned (.bool (smB L u e M x y)) ∧ Below w.heap.size w w' := by
  obtain ⟨W0, hW0, hb, hz0, c0, c1, c2⟩ := dbox w A L.length c u e
  obtain ⟨W1, hW1, hb1, hz1, d0, d1, d2⟩ := dbox W0 A' M.length c' x y
  have B1 := hb.trans (hb1.mono hb.size)
  have hlt : w.heap.size < W0.heap.size := by omega
  have c0 := (hb1.cell (p := ⟨w.heap.size, 0, none⟩) hlt).trans c0
  have c1 := (hb1.cell (p := ⟨w.heap.size, 1, none⟩) hlt).trans c1
  have c2 := (hb1.cell (p := ⟨w.heap.size, 2, none⟩) hlt).trans c2
  rw [hz0] at d0 d1 d2
  have HR := Lib.hid (hr.keep B1); have HS := Lib.hid (hs.keep B1); have HB := Lib.hid B1
  have hW : W1 = (w.alloc (.cells #[.slice A L.length c, .int .i64 u, .int .i64 e] 33)).alloc (.cells #[.slice A' M.length c', .int .i64 x, .int .i64 y] 33) := by rw [hW1, hW0]
  clear hW0 hW1 hb hb1 hz0 hz1 hlt B1 hr hs
  have q0 := eq_doc10
  by_cases h1 : L.length = M.length
  rotate_left
  · have hz : ¬ (L.length : Int) = (M.length : Int) := by omega
    rw [smB_len h1]
    clear h1 HR HS
    generalize L.length = N at *
    generalize M.length = N' at *
    go_enter Tryd.func29, Tryd.ntmps29
    go_upto_region 1 with fail
    rw [← hW]
    clear hW
    go_wp2
    go_ret
    exact ⟨rfl, HB.out⟩
  obtain ⟨N, hN⟩ : ∃ N, N = L.length := ⟨_, rfl⟩
  have hNM : M.length = N := by omega
  rw [hNM] at d0 hW ⊢
  rw [← hN] at c0 hW hL ⊢
  have HN := Lib.hid hN; have HM := Lib.hid hNM
  clear hN hNM
  by_cases h2 : u = x
  rotate_left
  · rw [smB_u h2]
    go_enter Tryd.func29, Tryd.ntmps29
    go_upto_region 1 with fail
    rw [← hW]
    clear hW
    go_wp2
    go_ret
    exact ⟨rfl, HB.out⟩
  subst h2
  by_cases h3 : e = y
  rotate_left
  · rw [smB_e h3]
    go_enter Tryd.func29, Tryd.ntmps29
    go_upto_region 1 with fail
    rw [← hW]
    clear hW
    go_wp2
    go_ret
    exact ⟨rfl, HB.out⟩
  subst h3
  clear h1
  go_enter Tryd.func29, Tryd.ntmps29
  go_upto_region 1 with fail
  rw [← hW]
  clear hW
  go_wp2
  go_loopg [5] N (fun gg s5 wr => ∃ k q : Nat, k ≤ N ∧ N - k ≤ gg ∧ s5 = .int .i64 k ∧ wr = W1.drewN q ∧ Hid (∀ j, j < k → (rd L j == rd M j && ro L j == ro M j) = true))
  case atStart => exact ⟨0, 0, Nat.zero_le _, by omega, rfl, rfl, Lib.hid fun j hj => absurd hj (Nat.not_lt_zero _)⟩
  case round =>
    obtain ⟨k, q, hk, hg, rfl, rfl, F⟩ := hrel
    by_cases hlt : k < N
    · have hltz : (k : Int) < (N : Int) := by omega
      obtain ⟨b, off, rfl, -, -, hc⟩ := HR.out.pos (by have := HN.out; omega)
      obtain ⟨a1, a2⟩ := hc k (by have := HN.out; omega)
      obtain ⟨b', off', rfl, -, -, hc'⟩ := HS.out.pos (by have := HM.out; omega)
      obtain ⟨a3, a4⟩ := hc' k (by have := HM.out; omega)
      clear hc hc' HR HS
      cases hT : (rd L k == rd M k && ro L k == ro M k) with
      | false =>
        have T2 := Lib.hid hT
        have q1 := fun w => eq_doc10 (rd L k) (ro L k) (rd M k) (ro M k) w
        rw [hT] at q1
        clear q0 hT
        go_wp2
        go_quiet (fail)
        go_wp2
        go_ret
        exact ⟨ret1_eq (bool_eq (smB_at T2.out).symm), HB.out.trans (by first | exact drewN_below _ _ _ | exact (drewN_below _ _ _).trans (drewN_below _ _ _))⟩
      | true =>
        have T2 := Lib.hid hT
        have q1 := fun w => eq_doc10 (rd L k) (ro L k) (rd M k) (ro M k) w
        rw [hT] at q1
        clear q0 hT
        go_wp2
        go_quiet (fail)
        go_wp2
        go_roundg (N - (k + 1))
        case measure => omega
        case rel =>
          refine ⟨k + 1, _, by omega, by omega, by go_num, rfl, Lib.hid fun j hj => ?_⟩
          by_cases e : j = k
          · subst e; exact T2.out
          · exact F.out j (by omega)
    · have hltz : ¬ (k : Int) < (N : Int) := by omega
      obtain rfl : N = k := by omega
      go_wp2
      go_ret
      exact ⟨ret1_eq (bool_eq (smB_all (by rw [HM.out, HN.out]) (by rw [← HN.out]; exact F.out)).symm), HB.out.trans (drewN_below _ _ _)⟩

end Go.Proofs.YtaahfkkcjfpieaaDoor
