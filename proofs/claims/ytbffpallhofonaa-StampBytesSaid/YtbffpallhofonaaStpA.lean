/- Package stamp: allowed, Fraction, Nano, Of, Time, FromPosix, ToPosix, ShortOf, Span, whole, Sub, Zero; a fixed fact. -/
import Derived.Test.YtbffpallhofonaaStpM
import Derived.Test.YtbffpallhofonaaEraB
import Derived.Test.YtbffpallhofonaaBlk
import Derived.Deep.QuietTactic
import Derived.Deep.DeepCutAuto
namespace Go.Proofs.Ytbffpallhofonaa
open Go.RowKit
set_option linter.unusedVariables false
set_option linter.unusedSimpArgs false

/-- What is made behind a box that the caller made. -/
theorem bel_boxed {w w1 w2 : World} {o : Obj} (h : Below w.heap.size w w1) (h2 : Below (w1.alloc o).heap.size (w1.alloc o) w2) : Below w.heap.size w w2 := (h.alloc h.size o).trans (h2.mono (h.alloc h.size o).size)

theorem sallowed_any (n : Int) (w : World) (hn : fits n) :
    Calls Try.prog 38 #[.int .i64 n] w fun e w' => e = .returned (.bool (okn n)) ∧ w = w' := by
  have HW : Hid (∀ w, Calls Try.prog 57 #[.int .i64 n, .int .i64 0, .int .i64 999999999] w fun e w' => e = .returned (.bool (okn n)) ∧ w = w') := Lib.hid (fun w => within_any n 0 999999999 w)
  have r1 : IntKind.i64.wrap n = n := IntWalk.i64_in _ hn
  generalize okn n = B at *
  clear hn
  go_enter Try.func38, Try.ntmps38
  go_wp2_with (go_at_call 57; refine (HW.out _).mono ?_; rintro e w' ⟨rfl, rfl⟩)
  go_ret
  exact ⟨rfl, rfl⟩

theorem sfraction_any (n : Int) (w : World) (hn : fits n) :
    Calls Try.prog 12 #[.int .i64 n] w fun e w' => e = .returned (.tuple #[.int .u32 (lfN n), ev (lfE n)]) ∧ w = w' := by
  have HO := Lib.hid (fun w => sallowed_any n w hn)
  cases h : okn n with
  | false =>
    rw [(lf_no h).1, (lf_no h).2]
    rw [h] at HO
    clear h hn
    go_enter Try.func12, Try.ntmps12
    go_wp2_with (go_at_call 38; refine (HO.out _).mono ?_; rintro e w' ⟨rfl, rfl⟩)
    go_ret2
    exact ⟨rfl, rfl⟩
  | true =>
    have hb := okn_yes h
    have hl := lf_bd n
    have e := (lf_yes h).2
    rw [(lf_yes h).1]
    rw [h] at HO
    have r1 : IntKind.u64.wrap n = n := IntWalk.u64_in _ (by omega)
    have r2 : IntKind.u64.wrap (n * 4294967296) = n * 4294967296 := IntWalk.u64_in _ (by omega)
    have r3 : IntKind.u64.wrap (n * 4294967296 + 1000000000) = n * 4294967296 + 1000000000 := IntWalk.u64_in _ (by omega)
    have r5 : IntKind.u64.wrap (n * 4294967296 + 1000000000 - 1) = n * 4294967296 + 1000000000 - 1 := IntWalk.u64_in _ (by omega)
    have r4 : IntKind.u32.wrap ((n * 4294967296 + 1000000000 - 1) / 1000000000) = (n * 4294967296 + 1000000000 - 1) / 1000000000 := by rw [IntKind.wrap_u32]; omega
    rw [e]
    clear e hl h
    go_enter Try.func12, Try.ntmps12
    go_wp2_with (go_at_call 38; refine (HO.out _).mono ?_; rintro e w' ⟨rfl, rfl⟩)
    go_ret2
    exact ⟨rfl, rfl⟩

theorem snano_any (f : Int) (w : World) (h0 : 0 ≤ f) (h1 : f < 4294967296) :
    Calls Try.prog 9 #[.int .u32 f] w fun e w' => e = .returned (.int .i64 (lnN f)) ∧ w = w' := by
  have r1 : IntKind.u64.wrap f = f := IntWalk.u64_in _ (by omega)
  have r2 : IntKind.u64.wrap (f * 1000000000) = f * 1000000000 := IntWalk.u64_in _ (by omega)
  have r3 : IntKind.i64.wrap (f * 1000000000 / 4294967296) = f * 1000000000 / 4294967296 := IntWalk.i64_in _ (by omega)
  unfold lnN
  go_enter Try.func9, Try.ntmps9
  go_wp2
  go_ret
  exact ⟨rfl, rfl⟩

theorem sof_any15 (t n : Int) (w : World) (ht : fits t) (hn : fits n) :
    Calls Try.prog 17 #[.int .i64 t, .int .i64 n] w fun e w' => e = .returned (.tuple #[.agg #[.int .u32 (if okn n = true then t % 4294967296 else 0), .int .u32 (lfN n)], ev (lfE n)]) ∧ Below w.heap.size w w' := by
  have q0 := fun op t W x k => guard_ev op t W x k
  have q2 := fun W k => neq_ev W k
  have HF := Lib.hid (fun w => sfraction_any n w hn)
  have HD := Lib.hid (fun w => fold32_any t w)
  cases h : okn n with
  | false =>
    rw [(lf_no h).1, (lf_no h).2] at HF ⊢
    clear h hn ht
    go_enter Try.func17, Try.ntmps17
    go_wp2_with (go_at_call 12; refine (HF.out _).mono ?_; rintro e w' ⟨rfl, rfl⟩)
    refine bodyPost_ret (v := .tuple #[.agg #[.int .u32 0, .int .u32 0], ev 1]) (by simp [results, Try.results17, go_sem]) rfl ⟨rfl, (Below.refl _ _).alloc (Nat.le_refl _) _⟩
  | true =>
    rw [(lf_yes h).1] at HF ⊢
    rw [if_pos rfl]
    generalize t % 4294967296 = S at *
    generalize lfN n = F at *
    clear h hn ht
    go_enter Try.func17, Try.ntmps17
    go_wp2_with first
      | (go_at_call 12; refine (HF.out _).mono ?_; rintro e w' ⟨rfl, rfl⟩)
      | (go_at_call 39; refine (HD.out _).mono ?_; rintro e w' ⟨rfl, rfl⟩)
    refine bodyPost_ret (v := .tuple #[.agg #[.int .u32 S, .int .u32 F], ev 0]) (by simp [results, Try.results17, go_sem, ev]) rfl ⟨rfl, (Below.refl _ _).alloc (Nat.le_refl _) _⟩

/-- The network seconds of a long stamp: number, nanoseconds (nothing where there is an error). -/
theorem stime_any (s f p : Int) (w : World) (hs0 : 0 ≤ s) (hs : s < 4294967296) (hf0 : 0 ≤ f) (hf : f < 4294967296) (hp : fits p) :
    Calls Try.prog 19 #[.agg #[.int .u32 s, .int .u32 f], .int .i64 p] w fun e w' =>
      e = .returned (.tuple #[.int .i64 (sm (un s p 32)), .int .i64 (if fits (un s p 32) then lnN f else 0), ev (bad (un s p 32))]) ∧ Below w.heap.size w w' := by
  have q0 := fun op t W x k => guard_ev op t W x k
  have q2 := fun W k => neq_ev W k
  have HU := Lib.hid (fun w => unfold32_any s p w hs0 hs hp)
  have HN := Lib.hid (fun w => snano_any f w hf0 hf)
  have b1 : bsV s 32 p = sm (un s p 32) := @bsV_n s p 32 (by decide) (by decide) (by rw [pw_32]; exact hs)
  have b2 : bsE s 32 p = bad (un s p 32) := @bsE_n s p 32 (by decide) (by decide) (by rw [pw_32]; exact hs)
  rw [b1, b2] at HU
  clear b1 b2
  by_cases h : fits (un s p 32)
  · rw [sm_fit h, bad_fit h] at HU ⊢
    rw [if_pos h]
    generalize un s p 32 = U at *
    generalize lnN f = M at *
    clear h hs0 hs hf0 hf hp
    go_enter Try.func19, Try.ntmps19
    go_wp2_with first
      | (go_at_call 40; refine (HU.out _).mono ?_; rintro e w' ⟨rfl, rfl⟩)
      | (go_at_call 9; refine (HN.out _).mono ?_; rintro e w' ⟨rfl, rfl⟩)
    go_ret3
    exact ⟨rfl, (Below.refl _ _).alloc (Nat.le_refl _) _⟩
  · rw [sm_no h, bad_no h] at HU ⊢
    rw [if_neg h]
    clear h hs0 hs hf0 hf hp
    go_enter Try.func19, Try.ntmps19
    go_wp2_with (go_at_call 40; refine (HU.out _).mono ?_; rintro e w' ⟨rfl, rfl⟩)
    go_ret3
    exact ⟨rfl, (Below.refl _ _).alloc (Nat.le_refl _) _⟩

theorem sfromposix_any (p : Int) (w : World) (hp : fits p) :
    Calls Try.prog 22 #[.int .i64 p] w fun e w' => e = .returned (.tuple #[.int .i64 (sm (p + 2208988800)), ev (bad (p + 2208988800))]) ∧ w = w' := by
  have HA := Lib.hid (fun w => add_any p 2208988800 w hp (by decide))
  generalize sm (p + 2208988800) = V at *
  generalize bad (p + 2208988800) = E at *
  clear hp
  go_enter Try.func22, Try.ntmps22
  go_wp2_with (go_at_call 47; refine (HA.out _).mono ?_; rintro e w' ⟨rfl, rfl⟩)
  go_ret2
  exact ⟨rfl, rfl⟩
theorem stoposix_any (p : Int) (w : World) (hp : fits p) :
    Calls Try.prog 23 #[.int .i64 p] w fun e w' => e = .returned (.tuple #[.int .i64 (sm (p - 2208988800)), ev (bad (p - 2208988800))]) ∧ w = w' := by
  have HA := Lib.hid (fun w => sub_any p 2208988800 w hp (by decide))
  generalize sm (p - 2208988800) = V at *
  generalize bad (p - 2208988800) = E at *
  clear hp
  go_enter Try.func23, Try.ntmps23
  go_wp2_with (go_at_call 48; refine (HA.out _).mono ?_; rintro e w' ⟨rfl, rfl⟩)
  go_ret2
  exact ⟨rfl, rfl⟩

theorem sspan_any (s f : Int) (w : World) (hs0 : 0 ≤ s) (hs : s < 65536) (hf0 : 0 ≤ f) (hf : f < 65536) :
    Calls Try.prog 11 #[.agg #[.int .u16 s, .int .u16 f]] w fun e w' => e = .returned (.tuple #[.int .i64 s, .int .i64 (snN f)]) ∧ Below w.heap.size w w' := by
  have r0 : IntKind.i64.wrap s = s := IntWalk.i64_in _ (by omega)
  have r1 : IntKind.u64.wrap f = f := IntWalk.u64_in _ (by omega)
  have r2 : IntKind.u64.wrap (f * 1000000000) = f * 1000000000 := IntWalk.u64_in _ (by omega)
  have r3 : IntKind.i64.wrap (f * 1000000000 / 65536) = f * 1000000000 / 65536 := IntWalk.i64_in _ (by omega)
  unfold snN
  obtain ⟨W0, hW0⟩ : ∃ W0, W0 = w.alloc (.cells #[.int .u16 s, .int .u16 f] 32) := ⟨_, rfl⟩
  have B : Hid (Below w.heap.size w W0) := Lib.hid (by rw [hW0]; exact (Below.refl _ _).alloc (Nat.le_refl _) _)
  have hl : W0.heap[w.heap.size]? = some (.cells #[.int .u16 s, .int .u16 f] 32 (0, 0)) := by rw [hW0]; exact heap_alloc_new _ _
  have k1 := bk_cell hl 0; have k2 := bk_cell hl 1
  have c1 : W0.drew.cell? ⟨w.heap.size, 0, none⟩ = some (.int .u16 s) := k1
  have c2 : W0.drew.cell? ⟨w.heap.size, 1, none⟩ = some (.int .u16 f) := k2
  clear hl
  go_enter Try.func11, Try.ntmps11
  go_upto_region 1 with fail
  rw [← hW0]; clear hW0
  go_quiet (fail)
  go_wp2
  go_ret2
  exact ⟨rfl, B.out.trans ⟨rfl, rfl, rfl, Nat.le_refl _, fun _ _ => rfl⟩⟩

theorem sshort_any (s n : Int) (w : World) (hs : fits s) (hn : fits n) :
    Calls Try.prog 13 #[.int .i64 s, .int .i64 n] w fun e w' => e = .returned (.tuple #[.agg #[.int .u16 (shS15 s n), .int .u16 (shF15 s n)], ev (shE15 s n)]) ∧ Below w.heap.size w w' := by
  have HO := Lib.hid (fun w => sallowed_any n w hn)
  by_cases h1 : 0 ≤ s
  · have d1 : decide (s < 0) = false := decide_eq_false (by omega)
    by_cases h2 : s ≤ 65535
    · have d2 : decide (65536 ≤ s) = false := decide_eq_false (by omega)
      cases h : okn n with
      | false =>
        obtain ⟨e1, e2, e3⟩ := sh_no (s := s) (n := n) (by rw [h]; simp)
        rw [e1, e2, e3]
        rw [h] at HO
        clear h hn hs h1 h2 e1 e2 e3
        go_enter Try.func13, Try.ntmps13
        go_wp2_with (go_at_call 38; refine (HO.out _).mono ?_; rintro e w' ⟨rfl, rfl⟩)
        refine bodyPost_ret (v := .tuple #[.agg #[.int .u16 0, .int .u16 0], ev 1]) (by simp [results, Try.results13, go_sem, ev]) rfl ⟨rfl, (Below.refl _ _).alloc (Nat.le_refl _) _⟩
      | true =>
        obtain ⟨e1, e2, e3⟩ := sh_yes h1 h2 h
        rw [e1, e2, e3]
        rw [h] at HO
        have hb := okn_yes h
        have r0 : IntKind.u16.wrap s = s := by rw [IntKind.wrap_u16]; omega
        have r1 : IntKind.u64.wrap n = n := IntWalk.u64_in _ (by omega)
        have r2 : IntKind.u64.wrap (n * 65536) = n * 65536 := IntWalk.u64_in _ (by omega)
        have r4 : IntKind.u16.wrap (n * 65536 / 1000000000) = n * 65536 / 1000000000 := by rw [IntKind.wrap_u16]; omega
        clear h hn hs e1 e2 e3
        go_enter Try.func13, Try.ntmps13
        go_wp2_with (go_at_call 38; refine (HO.out _).mono ?_; rintro e w' ⟨rfl, rfl⟩)
        refine bodyPost_ret (v := .tuple #[.agg #[.int .u16 s, .int .u16 (n * 65536 / 1000000000)], ev 0]) (by simp [results, Try.results13, go_sem, ev]) rfl ⟨rfl, (Below.refl _ _).alloc (Nat.le_refl _) _⟩
    · have d2 : decide (65536 ≤ s) = true := decide_eq_true (by omega)
      obtain ⟨e1, e2, e3⟩ := sh_no (s := s) (n := n) (fun h => h2 h.2.1)
      rw [e1, e2, e3]
      clear hn hs h1 h2 e1 e2 e3 HO
      go_enter Try.func13, Try.ntmps13
      go_wp2
      refine bodyPost_ret (v := .tuple #[.agg #[.int .u16 0, .int .u16 0], ev 1]) (by simp [results, Try.results13, go_sem, ev]) rfl ⟨rfl, (Below.refl _ _).alloc (Nat.le_refl _) _⟩
  · have d1 : decide (s < 0) = true := decide_eq_true (by omega)
    obtain ⟨e1, e2, e3⟩ := sh_no (s := s) (n := n) (fun h => h1 h.1)
    rw [e1, e2, e3]
    clear hn hs h1 e1 e2 e3 HO
    go_enter Try.func13, Try.ntmps13
    go_wp2
    refine bodyPost_ret (v := .tuple #[.agg #[.int .u16 0, .int .u16 0], ev 1]) (by simp [results, Try.results13, go_sem, ev]) rfl ⟨rfl, (Below.refl _ _).alloc (Nat.le_refl _) _⟩

theorem alive15_any (w : World) : Calls Try.prog 8 #[] w fun e w' => e = .returned (.bool true) ∧ w = w' := by
  have q0 := fun op t W x k => guard_ev op t W x k
  have q1 := fun W k => eql_ev W k
  have q2 := fun W k => neq_ev W k
  have HF := Lib.hid (fun w => sfraction_any 500000000 w (by decide))
  rw [show lfN 500000000 = 2147483648 by decide +kernel, show lfE 500000000 = 0 by decide +kernel] at HF
  have HN := Lib.hid (fun w => snano_any 2147483648 w (by decide) (by decide))
  rw [show lnN 2147483648 = 500000000 by decide +kernel] at HN
  go_enter Try.func8, Try.ntmps8
  go_wp2_with first
    | (go_at_call 12; refine (HF.out _).mono ?_; rintro e w' ⟨rfl, rfl⟩)
    | (go_at_call 9; refine (HN.out _).mono ?_; rintro e w' ⟨rfl, rfl⟩)
  go_ret
  exact ⟨rfl, rfl⟩
end Go.Proofs.Ytbffpallhofonaa
