/- Merged: PosD. -/
import Derived.Test.YtkhcneacjnpcnaaGPosixParses18
import Derived.Test.YtkhcneacjnpcnaaGPosixParses21
import Derived.Test.YtkhcneacjnpcnaaGPosixParses27
namespace Go.Proofs.Ytkhcneacjnpcnaa
open Go.RowKit
set_option linter.unusedVariables false
set_option linter.unusedSimpArgs false

/-- A reader at work: its own box, and the scanner. -/
structure Tn (w W : World) (g : Nat) (v : Value) (k : Nat) (e : Int) : Prop where
  sk : Sk Ts W g v k e
  box : W.heap[w.heap.size]? = some (.cells #[.pointer (some ⟨g, 0, none⟩)] 42 (0, 0))
  gb : w.grownBy W (some g)
  gl : g < w.heap.size
theorem Tn.mv {w W W' : World} {g k k' : Nat} {v : Value} {e e' : Int} (h : Tn w W g v k e) (hm : Mv Ts g v k' e' W W') : Tn w W' g v k' e' :=
  ⟨hm.1, mv_block hm h.box (by have := h.gl; omega), h.gb.trans hm.2, h.gl⟩
theorem Tn.keep {w W W' : World} {g k : Nat} {v : Value} {e : Int} (h : Tn w W g v k e) (hb : Below W.heap.size W W') : Tn w W' g v k e :=
  ⟨h.sk.below hb h.sk.lt, bel_keep hb h.box, gb_below h.gb hb, h.gl⟩
theorem Tn.drew {w W : World} {g k : Nat} {v : Value} {e : Int} (h : Tn w W g v k e) (n : Nat) : Tn w (W.drewN n) g v k e := ⟨h.sk.drewN n, h.box, gb_draw h.gb n, h.gl⟩
theorem Tn.see {w W : World} {g k : Nat} {v : Value} {e : Int} (h : Tn w W g v k e) : W.cell? ⟨w.heap.size, 0, none⟩ = some (.pointer (some ⟨g, 0, none⟩)) := bk_cell h.box 0
theorem Tn.new {w : World} {g k : Nat} {v : Value} {e : Int} (h : Sk Ts w g v k e) : Tn w (w.alloc (.cells #[.pointer (some ⟨g, 0, none⟩)] 42)) g v k e :=
  ⟨h.alloc _, heap_alloc_new w _, gb_alloc (gb_refl _ _) _, h.lt⟩
set_option maxHeartbeats 4000000 in
theorem rname_by (g k ka ku km : Nat) (e em E : Int) (v : Value) (S1 : ByteArray) (w : World) (hs : Sk Ts w g v k e)
    (HT : Hid (∀ w, Sk Ts w g v k e → Calls Try.prog 35 #[.pointer (some ⟨g, 0, none⟩), .int .u8 60] w fun x w' => x = .returned (.bool true) ∧ Mv Ts g v ka e w w'))
    (HU : Hid (∀ w, Sk Ts w g v ka e → Calls Try.prog 36 #[.pointer (some ⟨g, 0, none⟩), .int .u8 62] w fun x w' => x = .returned (.string S1) ∧ Mv Ts g v ku e w w'))
    (HM : Hid (∀ w, Sk Ts w g v ku e → Calls Try.prog 37 #[.pointer (some ⟨g, 0, none⟩), .string ⟨#[62]⟩] w fun x w' => x = .returned (.tuple #[]) ∧ Mv Ts g v km em w w'))
    (HN : Hid (∀ w, Calls Try.prog 24 #[.string S1] w fun x w' => x = .returned (.bool true) ∧ w = w'))
    : Calls Try.prog 18 #[.agg #[.pointer (some ⟨g, 0, none⟩)]] w fun x w' => x = .returned (.string S1) ∧ Mv Ts g v km em w w' := by
  obtain ⟨W0, hW0⟩ : ∃ W0, W0 = w.alloc (.cells #[.pointer (some ⟨g, 0, none⟩)] 42) := ⟨_, rfl⟩
  have S0 : Tn w W0 g v k e := by rw [hW0]; exact Tn.new hs
  have S := Lib.hid S0
  have c0 := S.out.see
  clear S0 hs
  go_enter Try.func18, Try.ntmps18
  go_upto_region 1 with fail
  rw [← hW0]; clear hW0
  go_wp2_with (first
    | (go_at_call 35; with_reducible refine (HT.out _ S.out.sk).mono ?_; rintro x w1 ⟨rfl, hm⟩; have S := Lib.hid (S.out.mv hm); clear hm; have c0 := S.out.see)
    | (go_at_call 36; with_reducible refine (HU.out _ S.out.sk).mono ?_; rintro x w2 ⟨rfl, hm⟩; have S := Lib.hid (S.out.mv hm); clear hm; have c0 := S.out.see)
    | (go_at_call 37; with_reducible refine (HM.out _ S.out.sk).mono ?_; rintro x w3 ⟨rfl, hm⟩; have S := Lib.hid (S.out.mv hm); clear hm; have c0 := S.out.see)
    | (go_at_call 24; with_reducible refine (HN.out _).mono ?_; rintro x w4 ⟨rfl, rfl⟩))
  go_ret
  exact ⟨rfl, S.out.sk, S.out.gb⟩
set_option maxHeartbeats 4000000 in
theorem rname_bn (g k ka ku km : Nat) (e em E : Int) (v : Value) (S1 : ByteArray) (w : World) (hs : Sk Ts w g v k e)
    (HT : Hid (∀ w, Sk Ts w g v k e → Calls Try.prog 35 #[.pointer (some ⟨g, 0, none⟩), .int .u8 60] w fun x w' => x = .returned (.bool true) ∧ Mv Ts g v ka e w w'))
    (HU : Hid (∀ w, Sk Ts w g v ka e → Calls Try.prog 36 #[.pointer (some ⟨g, 0, none⟩), .int .u8 62] w fun x w' => x = .returned (.string S1) ∧ Mv Ts g v ku e w w'))
    (HM : Hid (∀ w, Sk Ts w g v ku e → Calls Try.prog 37 #[.pointer (some ⟨g, 0, none⟩), .string ⟨#[62]⟩] w fun x w' => x = .returned (.tuple #[]) ∧ Mv Ts g v km em w w'))
    (HN : Hid (∀ w, Calls Try.prog 24 #[.string S1] w fun x w' => x = .returned (.bool false) ∧ w = w'))
    (HF : Hid (∀ w, Sk Ts w g v km em → Calls Try.prog 39 #[.pointer (some ⟨g, 0, none⟩), .iface 54 (.int .i64 2)] w fun x w' => x = .returned (.tuple #[]) ∧ Mv Ts g v km E w w'))
    : Calls Try.prog 18 #[.agg #[.pointer (some ⟨g, 0, none⟩)]] w fun x w' => x = .returned (.string S1) ∧ Mv Ts g v km E w w' := by
  obtain ⟨W0, hW0⟩ : ∃ W0, W0 = w.alloc (.cells #[.pointer (some ⟨g, 0, none⟩)] 42) := ⟨_, rfl⟩
  have S0 : Tn w W0 g v k e := by rw [hW0]; exact Tn.new hs
  have S := Lib.hid S0
  have c0 := S.out.see
  clear S0 hs
  go_enter Try.func18, Try.ntmps18
  go_upto_region 1 with fail
  rw [← hW0]; clear hW0
  go_wp2_with (first
    | (go_at_call 35; with_reducible refine (HT.out _ S.out.sk).mono ?_; rintro x w1 ⟨rfl, hm⟩; have S := Lib.hid (S.out.mv hm); clear hm; have c0 := S.out.see)
    | (go_at_call 36; with_reducible refine (HU.out _ S.out.sk).mono ?_; rintro x w2 ⟨rfl, hm⟩; have S := Lib.hid (S.out.mv hm); clear hm; have c0 := S.out.see)
    | (go_at_call 37; with_reducible refine (HM.out _ S.out.sk).mono ?_; rintro x w3 ⟨rfl, hm⟩; have S := Lib.hid (S.out.mv hm); clear hm; have c0 := S.out.see)
    | (go_at_call 24; with_reducible refine (HN.out _).mono ?_; rintro x w4 ⟨rfl, rfl⟩)
    | (go_at_call 39; with_reducible refine (HF.out _ S.out.sk).mono ?_; rintro x w5 ⟨rfl, hm⟩; have S := Lib.hid (S.out.mv hm); clear hm; have c0 := S.out.see))
  go_ret
  exact ⟨rfl, S.out.sk, S.out.gb⟩
set_option maxHeartbeats 4000000 in
theorem rname_py (g k ka ku km : Nat) (e em E : Int) (v : Value) (S1 : ByteArray) (w : World) (hs : Sk Ts w g v k e)
    (HT : Hid (∀ w, Sk Ts w g v k e → Calls Try.prog 35 #[.pointer (some ⟨g, 0, none⟩), .int .u8 60] w fun x w' => x = .returned (.bool false) ∧ Mv Ts g v ka e w w'))
    (HU : Hid (∀ w, Sk Ts w g v ka e → Calls Try.prog 38 #[.pointer (some ⟨g, 0, none⟩), .string ⟨#[65, 66, 67, 68, 69, 70, 71, 72, 73, 74, 75, 76, 77, 78, 79, 80, 81, 82, 83, 84, 85, 86, 87, 88, 89, 90, 97, 98, 99, 100, 101, 102, 103, 104, 105, 106, 107, 108, 109, 110, 111, 112, 113, 114, 115, 116, 117, 118, 119, 120, 121, 122]⟩] w fun x w' => x = .returned (.string S1) ∧ Mv Ts g v km em w w'))
    (HN : Hid (∀ w, Calls Try.prog 24 #[.string S1] w fun x w' => x = .returned (.bool true) ∧ w = w'))
    : Calls Try.prog 18 #[.agg #[.pointer (some ⟨g, 0, none⟩)]] w fun x w' => x = .returned (.string S1) ∧ Mv Ts g v km em w w' := by
  obtain ⟨W0, hW0⟩ : ∃ W0, W0 = w.alloc (.cells #[.pointer (some ⟨g, 0, none⟩)] 42) := ⟨_, rfl⟩
  have S0 : Tn w W0 g v k e := by rw [hW0]; exact Tn.new hs
  have S := Lib.hid S0
  have c0 := S.out.see
  clear S0 hs
  go_enter Try.func18, Try.ntmps18
  go_upto_region 1 with fail
  rw [← hW0]; clear hW0
  go_wp2_with (first
    | (go_at_call 35; with_reducible refine (HT.out _ S.out.sk).mono ?_; rintro x w1 ⟨rfl, hm⟩; have S := Lib.hid (S.out.mv hm); clear hm; have c0 := S.out.see)
    | (go_at_call 38; with_reducible refine (HU.out _ S.out.sk).mono ?_; rintro x w2 ⟨rfl, hm⟩; have S := Lib.hid (S.out.mv hm); clear hm; have c0 := S.out.see)
    | (go_at_call 24; with_reducible refine (HN.out _).mono ?_; rintro x w4 ⟨rfl, rfl⟩))
  go_ret
  exact ⟨rfl, S.out.sk, S.out.gb⟩
set_option maxHeartbeats 4000000 in
theorem rname_pn (g k ka ku km : Nat) (e em E : Int) (v : Value) (S1 : ByteArray) (w : World) (hs : Sk Ts w g v k e)
    (HT : Hid (∀ w, Sk Ts w g v k e → Calls Try.prog 35 #[.pointer (some ⟨g, 0, none⟩), .int .u8 60] w fun x w' => x = .returned (.bool false) ∧ Mv Ts g v ka e w w'))
    (HU : Hid (∀ w, Sk Ts w g v ka e → Calls Try.prog 38 #[.pointer (some ⟨g, 0, none⟩), .string ⟨#[65, 66, 67, 68, 69, 70, 71, 72, 73, 74, 75, 76, 77, 78, 79, 80, 81, 82, 83, 84, 85, 86, 87, 88, 89, 90, 97, 98, 99, 100, 101, 102, 103, 104, 105, 106, 107, 108, 109, 110, 111, 112, 113, 114, 115, 116, 117, 118, 119, 120, 121, 122]⟩] w fun x w' => x = .returned (.string S1) ∧ Mv Ts g v km em w w'))
    (HN : Hid (∀ w, Calls Try.prog 24 #[.string S1] w fun x w' => x = .returned (.bool false) ∧ w = w'))
    (HF : Hid (∀ w, Sk Ts w g v km em → Calls Try.prog 39 #[.pointer (some ⟨g, 0, none⟩), .iface 54 (.int .i64 2)] w fun x w' => x = .returned (.tuple #[]) ∧ Mv Ts g v km E w w'))
    : Calls Try.prog 18 #[.agg #[.pointer (some ⟨g, 0, none⟩)]] w fun x w' => x = .returned (.string S1) ∧ Mv Ts g v km E w w' := by
  obtain ⟨W0, hW0⟩ : ∃ W0, W0 = w.alloc (.cells #[.pointer (some ⟨g, 0, none⟩)] 42) := ⟨_, rfl⟩
  have S0 : Tn w W0 g v k e := by rw [hW0]; exact Tn.new hs
  have S := Lib.hid S0
  have c0 := S.out.see
  clear S0 hs
  go_enter Try.func18, Try.ntmps18
  go_upto_region 1 with fail
  rw [← hW0]; clear hW0
  go_wp2_with (first
    | (go_at_call 35; with_reducible refine (HT.out _ S.out.sk).mono ?_; rintro x w1 ⟨rfl, hm⟩; have S := Lib.hid (S.out.mv hm); clear hm; have c0 := S.out.see)
    | (go_at_call 38; with_reducible refine (HU.out _ S.out.sk).mono ?_; rintro x w2 ⟨rfl, hm⟩; have S := Lib.hid (S.out.mv hm); clear hm; have c0 := S.out.see)
    | (go_at_call 24; with_reducible refine (HN.out _).mono ?_; rintro x w4 ⟨rfl, rfl⟩)
    | (go_at_call 39; with_reducible refine (HF.out _ S.out.sk).mono ?_; rintro x w5 ⟨rfl, hm⟩; have S := Lib.hid (S.out.mv hm); clear hm; have c0 := S.out.see))
  go_ret
  exact ⟨rfl, S.out.sk, S.out.gb⟩
set_option maxHeartbeats 4000000 in
theorem roff_y (g k k1 : Nat) (e E : Int) (v : Value) (S1 : ByteArray) (N F : Int) (hN : -89999 ≤ N ∧ N ≤ 89999) (f0 : F ≠ 0) (w : World) (hs : Sk Ts w g v k e)
    (HU : Hid (∀ w, Sk Ts w g v k e → Calls Try.prog 38 #[.pointer (some ⟨g, 0, none⟩), .string ⟨#[48, 49, 50, 51, 52, 53, 54, 55, 56, 57, 43, 45, 58]⟩] w fun x w' => x = .returned (.string S1) ∧ Mv Ts g v k1 e w w'))
    (HP : Hid (∀ w, Calls Try.prog 40 #[.string S1, .int .i64 24] w fun x w' => x = .returned (.tuple #[.int .i64 N, ev 0]) ∧ Below w.heap.size w w'))
    : Calls Try.prog 19 #[.agg #[.pointer (some ⟨g, 0, none⟩)]] w fun x w' => x = .returned (.int .i64 (-N)) ∧ Mv Ts g v k1 e w w' := by
  have q0 := fun op t W x k => guard_ev op t W x k
  have q2 := fun W k => neq_ev W k
  have hn : IntKind.i64.wrap (-N) = -N := IntWalk.i64_in _ (by omega)
  have t1 := ne_yes f0
  clear hN f0
  obtain ⟨W0, hW0⟩ : ∃ W0, W0 = w.alloc (.cells #[.pointer (some ⟨g, 0, none⟩)] 42) := ⟨_, rfl⟩
  have S0 : Tn w W0 g v k e := by rw [hW0]; exact Tn.new hs
  have S := Lib.hid S0
  have c0 := S.out.see
  clear S0 hs
  go_enter Try.func19, Try.ntmps19
  go_upto_region 1 with fail
  rw [← hW0]; clear hW0
  go_wp2_with (first
    | (go_at_call 38; with_reducible refine (HU.out _ S.out.sk).mono ?_; rintro x w1 ⟨rfl, hm⟩; have S := Lib.hid (S.out.mv hm); clear hm; have c0 := S.out.see)
    | (go_at_call 40; with_reducible refine (HP.out _).mono ?_; rintro x w2 ⟨rfl, hb⟩; have S := Lib.hid (S.out.keep hb); clear hb; have c0 := S.out.see))
  go_ret
  exact ⟨rfl, S.out.sk, S.out.gb⟩
set_option maxHeartbeats 4000000 in
theorem roff_n (g k k1 : Nat) (e E : Int) (v : Value) (S1 : ByteArray) (N F : Int) (hN : -89999 ≤ N ∧ N ≤ 89999) (f0 : F ≠ 0) (w : World) (hs : Sk Ts w g v k e)
    (HU : Hid (∀ w, Sk Ts w g v k e → Calls Try.prog 38 #[.pointer (some ⟨g, 0, none⟩), .string ⟨#[48, 49, 50, 51, 52, 53, 54, 55, 56, 57, 43, 45, 58]⟩] w fun x w' => x = .returned (.string S1) ∧ Mv Ts g v k1 e w w'))
    (HP : Hid (∀ w, Calls Try.prog 40 #[.string S1, .int .i64 24] w fun x w' => x = .returned (.tuple #[.int .i64 N, ev F]) ∧ Below w.heap.size w w'))
    (HF : Hid (∀ w, Sk Ts w g v k1 e → Calls Try.prog 39 #[.pointer (some ⟨g, 0, none⟩), ev F] w fun x w' => x = .returned (.tuple #[]) ∧ Mv Ts g v k1 E w w'))
    : Calls Try.prog 19 #[.agg #[.pointer (some ⟨g, 0, none⟩)]] w fun x w' => x = .returned (.int .i64 (-N)) ∧ Mv Ts g v k1 E w w' := by
  have q0 := fun op t W x k => guard_ev op t W x k
  have q2 := fun W k => neq_ev W k
  have hn : IntKind.i64.wrap (-N) = -N := IntWalk.i64_in _ (by omega)
  have t1 := ne_yes f0
  clear hN f0
  obtain ⟨W0, hW0⟩ : ∃ W0, W0 = w.alloc (.cells #[.pointer (some ⟨g, 0, none⟩)] 42) := ⟨_, rfl⟩
  have S0 : Tn w W0 g v k e := by rw [hW0]; exact Tn.new hs
  have S := Lib.hid S0
  have c0 := S.out.see
  clear S0 hs
  go_enter Try.func19, Try.ntmps19
  go_upto_region 1 with fail
  rw [← hW0]; clear hW0
  go_wp2_with (first
    | (go_at_call 38; with_reducible refine (HU.out _ S.out.sk).mono ?_; rintro x w1 ⟨rfl, hm⟩; have S := Lib.hid (S.out.mv hm); clear hm; have c0 := S.out.see)
    | (go_at_call 40; with_reducible refine (HP.out _).mono ?_; rintro x w2 ⟨rfl, hb⟩; have S := Lib.hid (S.out.keep hb); clear hb; have c0 := S.out.see)
    | (go_at_call 39; with_reducible refine (HF.out _ S.out.sk).mono ?_; rintro x w3 ⟨rfl, hm⟩; have S := Lib.hid (S.out.mv hm); clear hm; have c0 := S.out.see))
  go_ret
  exact ⟨rfl, S.out.sk, S.out.gb⟩
set_option maxHeartbeats 4000000 in
theorem rahd_c (g k k1 : Nat) (e E : Int) (v : Value) (o N : Int) (B : Int) (hB : (B == 44) = false) (w : World) (hs : Sk Ts w g v k e)
    (HP : Hid (∀ w, Sk Ts w g v k e → Calls Try.prog 42 #[.pointer (some ⟨g, 0, none⟩)] w fun x w' => x = .returned (.tuple #[.int .u8 44, .bool true]) ∧ ∃ n, w' = w.drewN n))
    (HU : Hid (∀ w, Calls Try.prog 43 #[.int .i64 o] w fun x w' => x = .returned (.int .i64 N) ∧ w = w'))
    : Calls Try.prog 21 #[.agg #[.pointer (some ⟨g, 0, none⟩)], .int .i64 o] w fun x w' => x = .returned (.int .i64 N) ∧ Mv Ts g v k e w w' := by
  obtain ⟨W0, hW0⟩ : ∃ W0, W0 = w.alloc (.cells #[.pointer (some ⟨g, 0, none⟩)] 42) := ⟨_, rfl⟩
  have S0 : Tn w W0 g v k e := by rw [hW0]; exact Tn.new hs
  have S := Lib.hid S0
  have c0 := S.out.see
  clear S0 hs
  go_enter Try.func21, Try.ntmps21
  go_upto_region 1 with fail
  rw [← hW0]; clear hW0
  go_wp2_with (first
    | (go_at_call 42; with_reducible refine (HP.out _ S.out.sk).mono ?_; rintro x w1 ⟨rfl, n, rfl⟩; have S := Lib.hid (S.out.drew n); have c0 := S.out.see)
    | (go_at_call 43; with_reducible refine (HU.out _).mono ?_; rintro x w2 ⟨rfl, rfl⟩))
  go_ret
  exact ⟨rfl, S.out.sk, S.out.gb⟩
set_option maxHeartbeats 4000000 in
theorem rahd_o (g k k1 : Nat) (e E : Int) (v : Value) (o N : Int) (B : Int) (hB : (B == 44) = false) (w : World) (hs : Sk Ts w g v k e)
    (HP : Hid (∀ w, Sk Ts w g v k e → Calls Try.prog 42 #[.pointer (some ⟨g, 0, none⟩)] w fun x w' => x = .returned (.tuple #[.int .u8 B, .bool true]) ∧ ∃ n, w' = w.drewN n))
    (HO : Hid (∀ w, Sk Ts w g v k e → Calls Try.prog 19 #[.agg #[.pointer (some ⟨g, 0, none⟩)]] w fun x w' => x = .returned (.int .i64 N) ∧ Mv Ts g v k1 E w w'))
    : Calls Try.prog 21 #[.agg #[.pointer (some ⟨g, 0, none⟩)], .int .i64 o] w fun x w' => x = .returned (.int .i64 N) ∧ Mv Ts g v k1 E w w' := by
  obtain ⟨W0, hW0⟩ : ∃ W0, W0 = w.alloc (.cells #[.pointer (some ⟨g, 0, none⟩)] 42) := ⟨_, rfl⟩
  have S0 : Tn w W0 g v k e := by rw [hW0]; exact Tn.new hs
  have S := Lib.hid S0
  have c0 := S.out.see
  clear S0 hs
  go_enter Try.func21, Try.ntmps21
  go_upto_region 1 with fail
  rw [← hW0]; clear hW0
  go_wp2_with (first
    | (go_at_call 42; with_reducible refine (HP.out _ S.out.sk).mono ?_; rintro x w1 ⟨rfl, n, rfl⟩; have S := Lib.hid (S.out.drew n); have c0 := S.out.see)
    | (go_at_call 19; with_reducible refine (HO.out _ S.out.sk).mono ?_; rintro x w2 ⟨rfl, hm⟩; have S := Lib.hid (S.out.mv hm); clear hm; have c0 := S.out.see))
  go_ret
  exact ⟨rfl, S.out.sk, S.out.gb⟩
set_option maxHeartbeats 4000000 in
theorem rahd_e (g k k1 : Nat) (e E : Int) (v : Value) (o N : Int) (B : Int) (hB : (B == 44) = false) (w : World) (hs : Sk Ts w g v k e)
    (HP : Hid (∀ w, Sk Ts w g v k e → Calls Try.prog 42 #[.pointer (some ⟨g, 0, none⟩)] w fun x w' => x = .returned (.tuple #[.int .u8 B, .bool false]) ∧ ∃ n, w' = w.drewN n))
    (HO : Hid (∀ w, Sk Ts w g v k e → Calls Try.prog 19 #[.agg #[.pointer (some ⟨g, 0, none⟩)]] w fun x w' => x = .returned (.int .i64 N) ∧ Mv Ts g v k1 E w w'))
    : Calls Try.prog 21 #[.agg #[.pointer (some ⟨g, 0, none⟩)], .int .i64 o] w fun x w' => x = .returned (.int .i64 N) ∧ Mv Ts g v k1 E w w' := by
  obtain ⟨W0, hW0⟩ : ∃ W0, W0 = w.alloc (.cells #[.pointer (some ⟨g, 0, none⟩)] 42) := ⟨_, rfl⟩
  have S0 : Tn w W0 g v k e := by rw [hW0]; exact Tn.new hs
  have S := Lib.hid S0
  have c0 := S.out.see
  clear S0 hs
  go_enter Try.func21, Try.ntmps21
  go_upto_region 1 with fail
  rw [← hW0]; clear hW0
  go_wp2_with (first
    | (go_at_call 42; with_reducible refine (HP.out _ S.out.sk).mono ?_; rintro x w1 ⟨rfl, n, rfl⟩; have S := Lib.hid (S.out.drew n); have c0 := S.out.see)
    | (go_at_call 19; with_reducible refine (HO.out _ S.out.sk).mono ?_; rintro x w2 ⟨rfl, hm⟩; have S := Lib.hid (S.out.mv hm); clear hm; have c0 := S.out.see))
  go_ret
  exact ⟨rfl, S.out.sk, S.out.gb⟩
end Go.Proofs.Ytkhcneacjnpcnaa
