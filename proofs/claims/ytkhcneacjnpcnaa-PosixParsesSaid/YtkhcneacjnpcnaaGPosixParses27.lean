/- Merged: RulL. -/
import Derived.Test.YtkhcneacjnpcnaaGPosixParses26
namespace Go.Proofs.Ytkhcneacjnpcnaa
open Go.RowKit
set_option linter.unusedVariables false
set_option linter.unusedSimpArgs false

theorem pclock_most (str : ByteArray) (most : Int) (w : World) (hm : wiB most 0 999 = false) :
    Calls Try.prog 40 #[.string str, .int .i64 most] w fun x w' => x = .returned (.tuple #[.int .i64 0, ev 1]) ∧ Below w.heap.size w w' := by
  have HW := Lib.hid (fun n a b w => wi_any n a b w)
  rw [ev_pos (k := 1) (by decide)]
  go_enter Try.func40, Try.ntmps40
  go_wp2_with (go_at_call 47; refine (HW.out _ _ _ _).mono ?_; rintro e w' ⟨rfl, rfl⟩)
  go_ret2
  exact ⟨rfl, Below.refl _ _⟩
set_option maxHeartbeats 4000000 in
theorem pclock_bad (str : ByteArray) (most : Int) (w : World) (hm : wiB most 0 999 = true) (k : Nat) (e : Int) (n : Bool) (h m s : Int) 
    (HC : Hid (∀ g w, Sk Ts w g (.string str) 0 0 → Calls Try.prog 54 #[.pointer (some ⟨g, 0, none⟩)] w fun x w' => x = .returned (.agg #[.bool n, .int .i64 h, .int .i64 m, .int .i64 s]) ∧ Mv Ts g (.string str) k e w w'))
    (HE : Hid (∀ g w, Sk Ts w g (.string str) k e → Calls Try.prog 11 #[.pointer (some ⟨g, 0, none⟩)] w fun x w' => x = .returned (ev 2) ∧ ∃ n, w' = w.drewN n))
    : Calls Try.prog 40 #[.string str, .int .i64 most] w fun x w' => x = .returned (.tuple #[.int .i64 0, ev 2]) ∧ Below w.heap.size w w' := by
  have q0 := fun op t W x k => guard_ev op t W x k
  have q2 := fun W k => neq_ev W k
  have HW := Lib.hid (fun n a b w => wi_any n a b w)
  have hN := new16_s str w
  have hS := gnew16_s str w
  have b1 := bel16 w (.cells #[.string str, .int .i64 0, .nilIface] Ts)
  obtain ⟨W1, hW1⟩ : ∃ W1, W1 = w.alloc (.cells #[.string str, .int .i64 0, .nilIface] Ts) := ⟨_, rfl⟩
  rw [← hW1] at hN hS b1
  have HN := Lib.hid hN; have HS := Lib.hid hS; have B1 := Lib.hid b1
  clear hN hS b1 hW1
  generalize hv : Value.string str = v at *
  have HV := Lib.hid hv
  clear hv
  go_enter Try.func40, Try.ntmps40
  go_upto_region 5 with (first
    | (go_at_call 47; refine (HW.out _ _ _ _).mono ?_; rintro e w' ⟨rfl, rfl⟩)
    | (go_at_call 9; refine HN.out.mono ?_; rintro x w' ⟨rfl, rfl⟩)
    | (go_at_call 54; refine (HC.out _ _ HS.out).mono ?_; rintro x w2 ⟨rfl, hm⟩; have M2 := Lib.hid hm; clear hm))
  have s3 := M2.out.1.alloc (.cells #[.bool n, .int .i64 h, .int .i64 m, .int .i64 s] 88)
  have c3 := bel_mv B1.out M2.out (Nat.le_refl _)
  have d3 := c3.alloc c3.size (.cells #[.bool n, .int .i64 h, .int .i64 m, .int .i64 s] 88)
  have e3' : (w2.alloc (.cells #[.bool n, .int .i64 h, .int .i64 m, .int .i64 s] 88)).heap[w2.heap.size]? = some (.cells #[.bool n, .int .i64 h, .int .i64 m, .int .i64 s] 88 (0, 0)) := heap_alloc_new w2 _
  obtain ⟨q, hq⟩ : ∃ q, q = w2.heap.size := ⟨_, rfl⟩
  obtain ⟨W3, hW3⟩ : ∃ W3, W3 = w2.alloc (.cells #[.bool n, .int .i64 h, .int .i64 m, .int .i64 s] 88) := ⟨_, rfl⟩
  rw [← hW3] at s3 d3 e3'
  rw [← hq] at e3'
  rw [← hW3, ← hq]
  have S3 := Lib.hid s3; have D3 := Lib.hid d3; have E3 := Lib.hid e3'
  clear hW3 hq s3 c3 d3 e3'
  go_wp2_with (go_at_call 11; refine (HE.out _ _ S3.out).mono ?_; rintro x w4 ⟨rfl, nq, rfl⟩)
  go_ret2
  exact ⟨rfl, below_dn16 D3.out nq⟩
set_option maxHeartbeats 4000000 in
theorem pclock_unfit (str : ByteArray) (most : Int) (w : World) (hm : wiB most 0 999 = true) (k : Nat) (e : Int) (n : Bool) (h m s : Int) 
    (HC : Hid (∀ g w, Sk Ts w g (.string str) 0 0 → Calls Try.prog 54 #[.pointer (some ⟨g, 0, none⟩)] w fun x w' => x = .returned (.agg #[.bool n, .int .i64 h, .int .i64 m, .int .i64 s]) ∧ Mv Ts g (.string str) k e w w'))
    (HE : Hid (∀ g w, Sk Ts w g (.string str) k e → Calls Try.prog 11 #[.pointer (some ⟨g, 0, none⟩)] w fun x w' => x = .returned (ev 0) ∧ ∃ n, w' = w.drewN n))
    (HF : Hid (∀ w, Calls Try.prog 55 #[.agg #[.bool n, .int .i64 h, .int .i64 m, .int .i64 s], .int .i64 most] w fun x w' => x = .returned (.bool false) ∧ Below w.heap.size w w'))
    : Calls Try.prog 40 #[.string str, .int .i64 most] w fun x w' => x = .returned (.tuple #[.int .i64 0, ev 1]) ∧ Below w.heap.size w w' := by
  have q0 := fun op t W x k => guard_ev op t W x k
  have q2 := fun W k => neq_ev W k
  have HW := Lib.hid (fun n a b w => wi_any n a b w)
  rw [ev_pos (k := 1) (by decide)]
  have hN := new16_s str w
  have hS := gnew16_s str w
  have b1 := bel16 w (.cells #[.string str, .int .i64 0, .nilIface] Ts)
  obtain ⟨W1, hW1⟩ : ∃ W1, W1 = w.alloc (.cells #[.string str, .int .i64 0, .nilIface] Ts) := ⟨_, rfl⟩
  rw [← hW1] at hN hS b1
  have HN := Lib.hid hN; have HS := Lib.hid hS; have B1 := Lib.hid b1
  clear hN hS b1 hW1
  generalize hv : Value.string str = v at *
  have HV := Lib.hid hv
  clear hv
  go_enter Try.func40, Try.ntmps40
  go_upto_region 5 with (first
    | (go_at_call 47; refine (HW.out _ _ _ _).mono ?_; rintro e w' ⟨rfl, rfl⟩)
    | (go_at_call 9; refine HN.out.mono ?_; rintro x w' ⟨rfl, rfl⟩)
    | (go_at_call 54; refine (HC.out _ _ HS.out).mono ?_; rintro x w2 ⟨rfl, hm⟩; have M2 := Lib.hid hm; clear hm))
  have s3 := M2.out.1.alloc (.cells #[.bool n, .int .i64 h, .int .i64 m, .int .i64 s] 88)
  have c3 := bel_mv B1.out M2.out (Nat.le_refl _)
  have d3 := c3.alloc c3.size (.cells #[.bool n, .int .i64 h, .int .i64 m, .int .i64 s] 88)
  have e3' : (w2.alloc (.cells #[.bool n, .int .i64 h, .int .i64 m, .int .i64 s] 88)).heap[w2.heap.size]? = some (.cells #[.bool n, .int .i64 h, .int .i64 m, .int .i64 s] 88 (0, 0)) := heap_alloc_new w2 _
  obtain ⟨q, hq⟩ : ∃ q, q = w2.heap.size := ⟨_, rfl⟩
  obtain ⟨W3, hW3⟩ : ∃ W3, W3 = w2.alloc (.cells #[.bool n, .int .i64 h, .int .i64 m, .int .i64 s] 88) := ⟨_, rfl⟩
  rw [← hW3] at s3 d3 e3'
  rw [← hq] at e3'
  rw [← hW3, ← hq]
  have S3 := Lib.hid s3; have D3 := Lib.hid d3; have E3 := Lib.hid e3'
  clear hW3 hq s3 c3 d3 e3'
  go_upto_region 8 with (go_at_call 11; refine (HE.out _ _ S3.out).mono ?_; rintro x w4 ⟨rfl, nq, rfl⟩)
  have d4 := below_dn16 D3.out nq
  have e4 : (W3.drewN nq).heap[q]? = _ := E3.out
  obtain ⟨W4, hW4⟩ : ∃ W4, W4 = W3.drewN nq := ⟨_, rfl⟩
  rw [← hW4] at d4 e4
  rw [← hW4]
  clear hW4 S3 D3 E3
  have D3 := Lib.hid d4; have E3 := Lib.hid e4
  clear d4 e4
  have z0 := bk_cell E3.out 0; have z1 := bk_cell E3.out 1; have z2 := bk_cell E3.out 2; have z3 := bk_cell E3.out 3
  go_wp2_with (go_at_call 55; refine (HF.out _).mono ?_; rintro x w5 ⟨rfl, hb⟩; have E3 := Lib.hid (bel_keep hb E3.out); have D3 := Lib.hid (D3.out.trans (hb.mono D3.out.size)); clear hb; have z0 := bk_cell E3.out 0; have z1 := bk_cell E3.out 1; have z2 := bk_cell E3.out 2; have z3 := bk_cell E3.out 3)
  go_ret2
  exact ⟨rfl, D3.out⟩
set_option maxHeartbeats 4000000 in
theorem pclock_good (str : ByteArray) (most : Int) (w : World) (hm : wiB most 0 999 = true) (k : Nat) (e : Int) (n : Bool) (h m s : Int) (T : Int)
    (HC : Hid (∀ g w, Sk Ts w g (.string str) 0 0 → Calls Try.prog 54 #[.pointer (some ⟨g, 0, none⟩)] w fun x w' => x = .returned (.agg #[.bool n, .int .i64 h, .int .i64 m, .int .i64 s]) ∧ Mv Ts g (.string str) k e w w'))
    (HE : Hid (∀ g w, Sk Ts w g (.string str) k e → Calls Try.prog 11 #[.pointer (some ⟨g, 0, none⟩)] w fun x w' => x = .returned (ev 0) ∧ ∃ n, w' = w.drewN n))
    (HF : Hid (∀ w, Calls Try.prog 55 #[.agg #[.bool n, .int .i64 h, .int .i64 m, .int .i64 s], .int .i64 most] w fun x w' => x = .returned (.bool true) ∧ Below w.heap.size w w'))
    (HO : Hid (∀ w, Calls Try.prog 56 #[.agg #[.bool n, .int .i64 h, .int .i64 m, .int .i64 s]] w fun x w' => x = .returned (.int .i64 T) ∧ Below w.heap.size w w'))
    : Calls Try.prog 40 #[.string str, .int .i64 most] w fun x w' => x = .returned (.tuple #[.int .i64 T, ev 0]) ∧ Below w.heap.size w w' := by
  have q0 := fun op t W x k => guard_ev op t W x k
  have q2 := fun W k => neq_ev W k
  have HW := Lib.hid (fun n a b w => wi_any n a b w)
  have hN := new16_s str w
  have hS := gnew16_s str w
  have b1 := bel16 w (.cells #[.string str, .int .i64 0, .nilIface] Ts)
  obtain ⟨W1, hW1⟩ : ∃ W1, W1 = w.alloc (.cells #[.string str, .int .i64 0, .nilIface] Ts) := ⟨_, rfl⟩
  rw [← hW1] at hN hS b1
  have HN := Lib.hid hN; have HS := Lib.hid hS; have B1 := Lib.hid b1
  clear hN hS b1 hW1
  generalize hv : Value.string str = v at *
  have HV := Lib.hid hv
  clear hv
  go_enter Try.func40, Try.ntmps40
  go_upto_region 5 with (first
    | (go_at_call 47; refine (HW.out _ _ _ _).mono ?_; rintro e w' ⟨rfl, rfl⟩)
    | (go_at_call 9; refine HN.out.mono ?_; rintro x w' ⟨rfl, rfl⟩)
    | (go_at_call 54; refine (HC.out _ _ HS.out).mono ?_; rintro x w2 ⟨rfl, hm⟩; have M2 := Lib.hid hm; clear hm))
  have s3 := M2.out.1.alloc (.cells #[.bool n, .int .i64 h, .int .i64 m, .int .i64 s] 88)
  have c3 := bel_mv B1.out M2.out (Nat.le_refl _)
  have d3 := c3.alloc c3.size (.cells #[.bool n, .int .i64 h, .int .i64 m, .int .i64 s] 88)
  have e3' : (w2.alloc (.cells #[.bool n, .int .i64 h, .int .i64 m, .int .i64 s] 88)).heap[w2.heap.size]? = some (.cells #[.bool n, .int .i64 h, .int .i64 m, .int .i64 s] 88 (0, 0)) := heap_alloc_new w2 _
  obtain ⟨q, hq⟩ : ∃ q, q = w2.heap.size := ⟨_, rfl⟩
  obtain ⟨W3, hW3⟩ : ∃ W3, W3 = w2.alloc (.cells #[.bool n, .int .i64 h, .int .i64 m, .int .i64 s] 88) := ⟨_, rfl⟩
  rw [← hW3] at s3 d3 e3'
  rw [← hq] at e3'
  rw [← hW3, ← hq]
  have S3 := Lib.hid s3; have D3 := Lib.hid d3; have E3 := Lib.hid e3'
  clear hW3 hq s3 c3 d3 e3'
  go_upto_region 8 with (go_at_call 11; refine (HE.out _ _ S3.out).mono ?_; rintro x w4 ⟨rfl, nq, rfl⟩)
  have d4 := below_dn16 D3.out nq
  have e4 : (W3.drewN nq).heap[q]? = _ := E3.out
  obtain ⟨W4, hW4⟩ : ∃ W4, W4 = W3.drewN nq := ⟨_, rfl⟩
  rw [← hW4] at d4 e4
  rw [← hW4]
  clear hW4 S3 D3 E3
  have D3 := Lib.hid d4; have E3 := Lib.hid e4
  clear d4 e4
  have z0 := bk_cell E3.out 0; have z1 := bk_cell E3.out 1; have z2 := bk_cell E3.out 2; have z3 := bk_cell E3.out 3
  go_wp2_with (first
    | (go_at_call 55; refine (HF.out _).mono ?_; rintro x w5 ⟨rfl, hb⟩; have E3 := Lib.hid (bel_keep hb E3.out); have D3 := Lib.hid (D3.out.trans (hb.mono D3.out.size)); clear hb; have z0 := bk_cell E3.out 0; have z1 := bk_cell E3.out 1; have z2 := bk_cell E3.out 2; have z3 := bk_cell E3.out 3)
    | (go_at_call 56; refine (HO.out _).mono ?_; rintro x w6 ⟨rfl, hb⟩; have D3 := Lib.hid (D3.out.trans (hb.mono D3.out.size)); clear hb))
  go_ret2
  exact ⟨rfl, D3.out⟩

theorem parseclock_any (s : ByteArray) (most : Int) (w : World) (hs : s.size ≤ 100000) :
    Calls Try.prog 40 #[.string s, .int .i64 most] w fun x w' => x = .returned (.tuple #[.int .i64 (pcN s.data.toList most), ev (pcE s.data.toList most)]) ∧ Below w.heap.size w w' := by
  have hsz : s.data.toList.length = s.size := by simp
  have C := fun g w h => tclock_any g 0 0 s w h (Nat.zero_le _) hs
  have E := fun g k e (hk : k ≤ s.data.toList.length) w h => end_s g k e (.string s) s w h rfl (by omega) hs
  generalize s.data.toList = l at *
  cases hm : wiB most 0 999 with
  | false =>
    obtain ⟨r1, r2⟩ := pc_most (l := l) (most := most) (fun h => wiB_no.1 hm h)
    rw [r1, r2]
    exact pclock_most s most w hm
  | true =>
    have mp : moP most := wiB_yes.1 hm
    have k3 := cK3_le l 0 (Nat.zero_le _)
    have E1 := fun g => E g (cK3 l 0 0) (cE3 l 0 0) k3
    have bH := cH_bd l 0 0; have bM := cM_bd l 0 0; have bS := cS_bd l 0 0
    have K := ck_is l 0
    rw [List.drop_zero] at K
    rcases K with ⟨c, e⟩ | ⟨c, e⟩
    · obtain ⟨r1, r2⟩ := pc_none mp c
      rw [e] at E1
      rw [r1, r2]
      exact pclock_bad s most w hm _ _ _ _ _ _ (Lib.hid C) (Lib.hid E1)
    · obtain ⟨r1, r2⟩ := pc_some mp c
      rw [e] at E1
      have F := fun w => fits16_any (cNg l 0 0) (cH l 0 0) (cM l 0 0) (cS l 0 0) most w
      have O := fun w => total_any (cNg l 0 0) (cH l 0 0) (cM l 0 0) (cS l 0 0) w bH bM bS
      cases f : ckF most (cH l 0 0) (cM l 0 0) (cS l 0 0) with
      | false =>
        rw [f] at F r1 r2
        rw [if_neg (by decide)] at r1 r2
        rw [r1, r2]
        exact pclock_unfit s most w hm _ _ _ _ _ _ (Lib.hid C) (Lib.hid E1) (Lib.hid F)
      | true =>
        rw [f] at F r1 r2
        rw [if_pos rfl] at r1 r2
        rw [r1, r2]
        exact pclock_good s most w hm _ _ _ _ _ _ _ (Lib.hid C) (Lib.hid E1) (Lib.hid F) (Lib.hid O)

/-! ### the fixed fact -/
end Go.Proofs.Ytkhcneacjnpcnaa
