/- Merged: GpsB. -/
import Derived.Test.YtjbbnlcghnjlfaaGGpsTexts9
import Derived.Test.YtjbbnlcghnjlfaaGGpsTexts42
import Derived.Test.YtjbbnlcghnjlfaaGGpsTexts49
import Derived.Test.YtjbbnlcghnjlfaaGGpsTexts34
import Derived.Laws.Concat
namespace Go.Proofs.Ytjbbnlcghnjlfaa
open Go.RowKit
set_option linter.unusedVariables false
set_option linter.unusedSimpArgs false

theorem sig14_is (l : List UInt8) : (if (rs l 0 0).head? = some 45 then 0 + 1 else 0) = sig l := by rw [rs_zero, List.drop_zero]; rfl
theorem sig14_bool (l : List UInt8) : ((rs l 0 0).head? == some 45) = decide (sig l = 1) := by
  rw [rs_zero, List.drop_zero]; unfold sig
  by_cases c : l.head? = some 45
  · rw [if_pos c, c]; rfl
  · rw [if_neg c]; simpa using c
theorem sig_or (l : List UInt8) : sig l = 0 ∨ sig l = 1 := by unfold sig; split <;> simp
theorem yl_le (l : List UInt8) : sig l + yl l ≤ l.length := by
  have h1 := lead_le (bd l); have h2 := bd_len l; have h3 := sig_len l
  unfold yl; omega
/-- The figures of the week. -/
def wD (l : List UInt8) : List UInt8 := (bd l).take (yl l)
theorem wD_len (l : List UInt8) : (wD l).length = yl l := by unfold wD; rw [List.length_take]; have := lead_le (bd l); unfold yl; omega
theorem wD_head {l : List UInt8} (h : 4 < yl l) : ∃ a r, wD l = a :: r ∧ (bd l).head? = some a := by
  have hl := wD_len l
  unfold wD at hl ⊢
  cases hb : bd l with
  | nil => rw [hb] at hl; simp at hl; omega
  | cons a r =>
    refine ⟨a, r.take (yl l - 1), ?_, rfl⟩
    rw [show yl l = (yl l - 1) + 1 by omega, List.take_succ_cons]; rfl
/-- All ways of a week's text. -/
theorem wb_ways (l : List UInt8) : (yl l < 4 ∧ wb l) ∨ (yl l = 4 ∧ sig l = 0 ∧ ¬ wb l) ∨ (yl l = 4 ∧ sig l = 1 ∧ wD l = [48, 48, 48, 48] ∧ wb l) ∨ (yl l = 4 ∧ sig l = 1 ∧ wD l ≠ [48, 48, 48, 48] ∧ ¬ wb l) ∨
    (4 < yl l ∧ (∃ r, wD l = 48 :: r) ∧ wb l) ∨ (4 < yl l ∧ (∃ a r, wD l = a :: r ∧ a ≠ 48) ∧ wD l ≠ [48, 48, 48, 48] ∧ ¬ wb l) := by
  have hl := wD_len l
  rcases Nat.lt_trichotomy (yl l) 4 with c | c | c
  · exact .inl ⟨c, .inl c⟩
  · rcases sig_or l with s | s
    · refine .inr (.inl ⟨c, s, ?_⟩)
      rintro (h | h | h) <;> omega
    · by_cases d : wD l = [48, 48, 48, 48]
      · exact .inr (.inr (.inl ⟨c, s, d, .inr (.inr ⟨s, d⟩)⟩))
      · refine .inr (.inr (.inr (.inl ⟨c, s, d, ?_⟩)))
        rintro (h | h | h)
        · omega
        · omega
        · exact d h.2
  · obtain ⟨a, r, e1, e2⟩ := wD_head c
    have hne : wD l ≠ [48, 48, 48, 48] := by intro e; rw [e] at hl; simp at hl; omega
    by_cases d : a = 48
    · subst d
      exact .inr (.inr (.inr (.inr (.inl ⟨c, ⟨r, e1⟩, .inr (.inl ⟨c, e2⟩)⟩))))
    · refine .inr (.inr (.inr (.inr (.inr ⟨c, ⟨a, r, e1, d⟩, hne, ?_⟩))))
      rintro (h | h | h)
      · omega
      · rw [e2] at h; exact d (by injection h.2)
      · exact hne h.2

set_option maxRecDepth 100000 in
set_option maxHeartbeats 1600000 in
theorem takeweek_few_p (g K N : Nat) (s X Y : ByteArray) (w : World) (h1 : N < 4) (hN : X.size = N)
    (HT : Calls Try.prog 27 #[.pointer (some ⟨g, 0, none⟩), .int .u8 45] w fun x w' => x = .returned (.bool false) ∧ Mv Ts g (.string s) 0 0 w w')
    (HR : ∀ w1, Sk Ts w1 g (.string s) 0 0 → Calls Try.prog 53 #[.pointer (some ⟨g, 0, none⟩), .string ⟨#[48, 49, 50, 51, 52, 53, 54, 55, 56, 57]⟩] w1 fun x w' => x = .returned (.string X) ∧ Mv Ts g (.string s) K 0 w1 w')
    (A : ∀ W, (Op.stringOp .add ⟨#[]⟩ X).run Try.prog W = .ok (.string Y) W) :
    Calls Try.prog 26 #[.pointer (some ⟨g, 0, none⟩)] w fun x w' => x = .returned (.string Y) ∧ Mv Ts g (.string s) K 2 w w' := by
  have HT' := Lib.hid HT; have HR' := Lib.hid HR
  clear HT HR
  have hX := hN
  have t1 : decide ((X.size : Int) < 4) = true := decide_eq_true (by omega)
  have t2 : decide (4 < (X.size : Int)) = false := decide_eq_false (by omega)
  generalize hv : Value.string s = v at *
  clear hv
  go_enter Try.func26, Try.ntmps26
  go_wp2_with (first
    | (go_at_call 27; refine HT'.out.mono ?_; rintro x w1 ⟨rfl, hm⟩; have M1 := Lib.hid hm; clear hm)
    | (go_at_call 53; refine (HR'.out _ M1.out.1).mono ?_; rintro x w2 ⟨rfl, hm⟩; have M2 := Lib.hid hm; clear hm)
    | (go_at_call 28; refine (fail_s g K 0 2 _ v _ M2.out.1 rfl (by decide)).mono ?_; rintro x w3 ⟨rfl, hm⟩; have M3 := Lib.hid hm; clear hm))
  go_ret
  exact ⟨rfl, (M1.out.then_s M2.out).then_s M3.out⟩
set_option maxRecDepth 100000 in
set_option maxHeartbeats 1600000 in
theorem takeweek_four_p (g K N : Nat) (s X Y : ByteArray) (w : World) (h1 : N = 4) (hN : X.size = N)
    (HT : Calls Try.prog 27 #[.pointer (some ⟨g, 0, none⟩), .int .u8 45] w fun x w' => x = .returned (.bool false) ∧ Mv Ts g (.string s) 0 0 w w')
    (HR : ∀ w1, Sk Ts w1 g (.string s) 0 0 → Calls Try.prog 53 #[.pointer (some ⟨g, 0, none⟩), .string ⟨#[48, 49, 50, 51, 52, 53, 54, 55, 56, 57]⟩] w1 fun x w' => x = .returned (.string X) ∧ Mv Ts g (.string s) K 0 w1 w')
    (A : ∀ W, (Op.stringOp .add ⟨#[]⟩ X).run Try.prog W = .ok (.string Y) W) :
    Calls Try.prog 26 #[.pointer (some ⟨g, 0, none⟩)] w fun x w' => x = .returned (.string Y) ∧ Mv Ts g (.string s) K 0 w w' := by
  have HT' := Lib.hid HT; have HR' := Lib.hid HR
  clear HT HR
  have hX := hN
  have t1 : decide ((X.size : Int) < 4) = false := decide_eq_false (by omega)
  have t2 : decide (4 < (X.size : Int)) = false := decide_eq_false (by omega)
  generalize hv : Value.string s = v at *
  clear hv
  go_enter Try.func26, Try.ntmps26
  go_wp2_with (first
    | (go_at_call 27; refine HT'.out.mono ?_; rintro x w1 ⟨rfl, hm⟩; have M1 := Lib.hid hm; clear hm)
    | (go_at_call 53; refine (HR'.out _ M1.out.1).mono ?_; rintro x w2 ⟨rfl, hm⟩; have M2 := Lib.hid hm; clear hm)
    | (go_at_call 28; refine (fail_s g K 0 2 _ v _ M2.out.1 rfl (by decide)).mono ?_; rintro x w3 ⟨rfl, hm⟩; have M3 := Lib.hid hm; clear hm))
  go_ret
  exact ⟨rfl, M1.out.then_s M2.out⟩
set_option maxRecDepth 100000 in
set_option maxHeartbeats 1600000 in
theorem takeweek_zero_p (g K N : Nat) (s X Y : ByteArray) (w : World) (h1 : 4 < N) (hx : 0 < X.size) (h48 : ((X[0].toNat : Int) == 48) = true) (hN : X.size = N)
    (HT : Calls Try.prog 27 #[.pointer (some ⟨g, 0, none⟩), .int .u8 45] w fun x w' => x = .returned (.bool false) ∧ Mv Ts g (.string s) 0 0 w w')
    (HR : ∀ w1, Sk Ts w1 g (.string s) 0 0 → Calls Try.prog 53 #[.pointer (some ⟨g, 0, none⟩), .string ⟨#[48, 49, 50, 51, 52, 53, 54, 55, 56, 57]⟩] w1 fun x w' => x = .returned (.string X) ∧ Mv Ts g (.string s) K 0 w1 w')
    (A : ∀ W, (Op.stringOp .add ⟨#[]⟩ X).run Try.prog W = .ok (.string Y) W) :
    Calls Try.prog 26 #[.pointer (some ⟨g, 0, none⟩)] w fun x w' => x = .returned (.string Y) ∧ Mv Ts g (.string s) K 2 w w' := by
  have HT' := Lib.hid HT; have HR' := Lib.hid HR
  clear HT HR
  have hX := hN
  have t1 : decide ((X.size : Int) < 4) = false := decide_eq_false (by omega)
  have t2 : decide (4 < (X.size : Int)) = true := decide_eq_true (by omega)
  have hp : (0 : Int) < (X.size : Int) := by omega
  generalize hv : Value.string s = v at *
  clear hv
  go_enter Try.func26, Try.ntmps26
  go_wp2_with (first
    | (go_at_call 27; refine HT'.out.mono ?_; rintro x w1 ⟨rfl, hm⟩; have M1 := Lib.hid hm; clear hm)
    | (go_at_call 53; refine (HR'.out _ M1.out.1).mono ?_; rintro x w2 ⟨rfl, hm⟩; have M2 := Lib.hid hm; clear hm)
    | (go_at_call 28; refine (fail_s g K 0 2 _ v _ M2.out.1 rfl (by decide)).mono ?_; rintro x w3 ⟨rfl, hm⟩; have M3 := Lib.hid hm; clear hm))
  go_ret
  exact ⟨rfl, (M1.out.then_s M2.out).then_s M3.out⟩
set_option maxRecDepth 100000 in
set_option maxHeartbeats 1600000 in
theorem takeweek_many_p (g K N : Nat) (s X Y : ByteArray) (w : World) (h1 : 4 < N) (hx : 0 < X.size) (h48 : ((X[0].toNat : Int) == 48) = false) (hN : X.size = N)
    (HT : Calls Try.prog 27 #[.pointer (some ⟨g, 0, none⟩), .int .u8 45] w fun x w' => x = .returned (.bool false) ∧ Mv Ts g (.string s) 0 0 w w')
    (HR : ∀ w1, Sk Ts w1 g (.string s) 0 0 → Calls Try.prog 53 #[.pointer (some ⟨g, 0, none⟩), .string ⟨#[48, 49, 50, 51, 52, 53, 54, 55, 56, 57]⟩] w1 fun x w' => x = .returned (.string X) ∧ Mv Ts g (.string s) K 0 w1 w')
    (A : ∀ W, (Op.stringOp .add ⟨#[]⟩ X).run Try.prog W = .ok (.string Y) W) :
    Calls Try.prog 26 #[.pointer (some ⟨g, 0, none⟩)] w fun x w' => x = .returned (.string Y) ∧ Mv Ts g (.string s) K 0 w w' := by
  have HT' := Lib.hid HT; have HR' := Lib.hid HR
  clear HT HR
  have hX := hN
  have t1 : decide ((X.size : Int) < 4) = false := decide_eq_false (by omega)
  have t2 : decide (4 < (X.size : Int)) = true := decide_eq_true (by omega)
  have hp : (0 : Int) < (X.size : Int) := by omega
  generalize hv : Value.string s = v at *
  clear hv
  go_enter Try.func26, Try.ntmps26
  go_wp2_with (first
    | (go_at_call 27; refine HT'.out.mono ?_; rintro x w1 ⟨rfl, hm⟩; have M1 := Lib.hid hm; clear hm)
    | (go_at_call 53; refine (HR'.out _ M1.out.1).mono ?_; rintro x w2 ⟨rfl, hm⟩; have M2 := Lib.hid hm; clear hm)
    | (go_at_call 28; refine (fail_s g K 0 2 _ v _ M2.out.1 rfl (by decide)).mono ?_; rintro x w3 ⟨rfl, hm⟩; have M3 := Lib.hid hm; clear hm))
  go_ret
  exact ⟨rfl, M1.out.then_s M2.out⟩
set_option maxRecDepth 100000 in
set_option maxHeartbeats 1600000 in
theorem takeweek_few_n (g K N : Nat) (s X Y : ByteArray) (w : World) (h1 : N < 4) (hN : X.size = N)
    (HT : Calls Try.prog 27 #[.pointer (some ⟨g, 0, none⟩), .int .u8 45] w fun x w' => x = .returned (.bool true) ∧ Mv Ts g (.string s) 1 0 w w')
    (HR : ∀ w1, Sk Ts w1 g (.string s) 1 0 → Calls Try.prog 53 #[.pointer (some ⟨g, 0, none⟩), .string ⟨#[48, 49, 50, 51, 52, 53, 54, 55, 56, 57]⟩] w1 fun x w' => x = .returned (.string X) ∧ Mv Ts g (.string s) K 0 w1 w')
    (A : ∀ W, (Op.stringOp .add ⟨#[45]⟩ X).run Try.prog W = .ok (.string Y) W) :
    Calls Try.prog 26 #[.pointer (some ⟨g, 0, none⟩)] w fun x w' => x = .returned (.string Y) ∧ Mv Ts g (.string s) K 2 w w' := by
  have HT' := Lib.hid HT; have HR' := Lib.hid HR
  clear HT HR
  have hX := hN
  have t1 : decide ((X.size : Int) < 4) = true := decide_eq_true (by omega)
  have t2 : decide (4 < (X.size : Int)) = false := decide_eq_false (by omega)
  generalize hv : Value.string s = v at *
  clear hv
  go_enter Try.func26, Try.ntmps26
  go_wp2_with (first
    | (go_at_call 27; refine HT'.out.mono ?_; rintro x w1 ⟨rfl, hm⟩; have M1 := Lib.hid hm; clear hm)
    | (go_at_call 53; refine (HR'.out _ M1.out.1).mono ?_; rintro x w2 ⟨rfl, hm⟩; have M2 := Lib.hid hm; clear hm)
    | (go_at_call 28; refine (fail_s g K 0 2 _ v _ M2.out.1 rfl (by decide)).mono ?_; rintro x w3 ⟨rfl, hm⟩; have M3 := Lib.hid hm; clear hm))
  go_ret
  exact ⟨rfl, (M1.out.then_s M2.out).then_s M3.out⟩
set_option maxRecDepth 100000 in
set_option maxHeartbeats 1600000 in
theorem takeweek_four_nz (g K N : Nat) (s X Y : ByteArray) (w : World) (h1 : N = 4) (hq : (X.toList == [48, 48, 48, 48]) = true) (hN : X.size = N)
    (HT : Calls Try.prog 27 #[.pointer (some ⟨g, 0, none⟩), .int .u8 45] w fun x w' => x = .returned (.bool true) ∧ Mv Ts g (.string s) 1 0 w w')
    (HR : ∀ w1, Sk Ts w1 g (.string s) 1 0 → Calls Try.prog 53 #[.pointer (some ⟨g, 0, none⟩), .string ⟨#[48, 49, 50, 51, 52, 53, 54, 55, 56, 57]⟩] w1 fun x w' => x = .returned (.string X) ∧ Mv Ts g (.string s) K 0 w1 w')
    (A : ∀ W, (Op.stringOp .add ⟨#[45]⟩ X).run Try.prog W = .ok (.string Y) W) :
    Calls Try.prog 26 #[.pointer (some ⟨g, 0, none⟩)] w fun x w' => x = .returned (.string Y) ∧ Mv Ts g (.string s) K 2 w w' := by
  have HT' := Lib.hid HT; have HR' := Lib.hid HR
  clear HT HR
  have hX := hN
  have t1 : decide ((X.size : Int) < 4) = false := decide_eq_false (by omega)
  have t2 : decide (4 < (X.size : Int)) = false := decide_eq_false (by omega)
  generalize hv : Value.string s = v at *
  clear hv
  go_enter Try.func26, Try.ntmps26
  go_wp2_with (first
    | (go_at_call 27; refine HT'.out.mono ?_; rintro x w1 ⟨rfl, hm⟩; have M1 := Lib.hid hm; clear hm)
    | (go_at_call 53; refine (HR'.out _ M1.out.1).mono ?_; rintro x w2 ⟨rfl, hm⟩; have M2 := Lib.hid hm; clear hm)
    | (go_at_call 28; refine (fail_s g K 0 2 _ v _ M2.out.1 rfl (by decide)).mono ?_; rintro x w3 ⟨rfl, hm⟩; have M3 := Lib.hid hm; clear hm))
  go_ret
  exact ⟨rfl, (M1.out.then_s M2.out).then_s M3.out⟩
set_option maxRecDepth 100000 in
set_option maxHeartbeats 1600000 in
theorem takeweek_four_n (g K N : Nat) (s X Y : ByteArray) (w : World) (h1 : N = 4) (hq : (X.toList == [48, 48, 48, 48]) = false) (hN : X.size = N)
    (HT : Calls Try.prog 27 #[.pointer (some ⟨g, 0, none⟩), .int .u8 45] w fun x w' => x = .returned (.bool true) ∧ Mv Ts g (.string s) 1 0 w w')
    (HR : ∀ w1, Sk Ts w1 g (.string s) 1 0 → Calls Try.prog 53 #[.pointer (some ⟨g, 0, none⟩), .string ⟨#[48, 49, 50, 51, 52, 53, 54, 55, 56, 57]⟩] w1 fun x w' => x = .returned (.string X) ∧ Mv Ts g (.string s) K 0 w1 w')
    (A : ∀ W, (Op.stringOp .add ⟨#[45]⟩ X).run Try.prog W = .ok (.string Y) W) :
    Calls Try.prog 26 #[.pointer (some ⟨g, 0, none⟩)] w fun x w' => x = .returned (.string Y) ∧ Mv Ts g (.string s) K 0 w w' := by
  have HT' := Lib.hid HT; have HR' := Lib.hid HR
  clear HT HR
  have hX := hN
  have t1 : decide ((X.size : Int) < 4) = false := decide_eq_false (by omega)
  have t2 : decide (4 < (X.size : Int)) = false := decide_eq_false (by omega)
  generalize hv : Value.string s = v at *
  clear hv
  go_enter Try.func26, Try.ntmps26
  go_wp2_with (first
    | (go_at_call 27; refine HT'.out.mono ?_; rintro x w1 ⟨rfl, hm⟩; have M1 := Lib.hid hm; clear hm)
    | (go_at_call 53; refine (HR'.out _ M1.out.1).mono ?_; rintro x w2 ⟨rfl, hm⟩; have M2 := Lib.hid hm; clear hm)
    | (go_at_call 28; refine (fail_s g K 0 2 _ v _ M2.out.1 rfl (by decide)).mono ?_; rintro x w3 ⟨rfl, hm⟩; have M3 := Lib.hid hm; clear hm))
  go_ret
  exact ⟨rfl, M1.out.then_s M2.out⟩
set_option maxRecDepth 100000 in
set_option maxHeartbeats 1600000 in
theorem takeweek_zero_n (g K N : Nat) (s X Y : ByteArray) (w : World) (h1 : 4 < N) (hx : 0 < X.size) (h48 : ((X[0].toNat : Int) == 48) = true) (hN : X.size = N)
    (HT : Calls Try.prog 27 #[.pointer (some ⟨g, 0, none⟩), .int .u8 45] w fun x w' => x = .returned (.bool true) ∧ Mv Ts g (.string s) 1 0 w w')
    (HR : ∀ w1, Sk Ts w1 g (.string s) 1 0 → Calls Try.prog 53 #[.pointer (some ⟨g, 0, none⟩), .string ⟨#[48, 49, 50, 51, 52, 53, 54, 55, 56, 57]⟩] w1 fun x w' => x = .returned (.string X) ∧ Mv Ts g (.string s) K 0 w1 w')
    (A : ∀ W, (Op.stringOp .add ⟨#[45]⟩ X).run Try.prog W = .ok (.string Y) W) :
    Calls Try.prog 26 #[.pointer (some ⟨g, 0, none⟩)] w fun x w' => x = .returned (.string Y) ∧ Mv Ts g (.string s) K 2 w w' := by
  have HT' := Lib.hid HT; have HR' := Lib.hid HR
  clear HT HR
  have hX := hN
  have t1 : decide ((X.size : Int) < 4) = false := decide_eq_false (by omega)
  have t2 : decide (4 < (X.size : Int)) = true := decide_eq_true (by omega)
  have hp : (0 : Int) < (X.size : Int) := by omega
  generalize hv : Value.string s = v at *
  clear hv
  go_enter Try.func26, Try.ntmps26
  go_wp2_with (first
    | (go_at_call 27; refine HT'.out.mono ?_; rintro x w1 ⟨rfl, hm⟩; have M1 := Lib.hid hm; clear hm)
    | (go_at_call 53; refine (HR'.out _ M1.out.1).mono ?_; rintro x w2 ⟨rfl, hm⟩; have M2 := Lib.hid hm; clear hm)
    | (go_at_call 28; refine (fail_s g K 0 2 _ v _ M2.out.1 rfl (by decide)).mono ?_; rintro x w3 ⟨rfl, hm⟩; have M3 := Lib.hid hm; clear hm))
  go_ret
  exact ⟨rfl, (M1.out.then_s M2.out).then_s M3.out⟩
set_option maxRecDepth 100000 in
set_option maxHeartbeats 1600000 in
theorem takeweek_many_n (g K N : Nat) (s X Y : ByteArray) (w : World) (h1 : 4 < N) (hx : 0 < X.size) (h48 : ((X[0].toNat : Int) == 48) = false) (hq : (X.toList == [48, 48, 48, 48]) = false) (hN : X.size = N)
    (HT : Calls Try.prog 27 #[.pointer (some ⟨g, 0, none⟩), .int .u8 45] w fun x w' => x = .returned (.bool true) ∧ Mv Ts g (.string s) 1 0 w w')
    (HR : ∀ w1, Sk Ts w1 g (.string s) 1 0 → Calls Try.prog 53 #[.pointer (some ⟨g, 0, none⟩), .string ⟨#[48, 49, 50, 51, 52, 53, 54, 55, 56, 57]⟩] w1 fun x w' => x = .returned (.string X) ∧ Mv Ts g (.string s) K 0 w1 w')
    (A : ∀ W, (Op.stringOp .add ⟨#[45]⟩ X).run Try.prog W = .ok (.string Y) W) :
    Calls Try.prog 26 #[.pointer (some ⟨g, 0, none⟩)] w fun x w' => x = .returned (.string Y) ∧ Mv Ts g (.string s) K 0 w w' := by
  have HT' := Lib.hid HT; have HR' := Lib.hid HR
  clear HT HR
  have hX := hN
  have t1 : decide ((X.size : Int) < 4) = false := decide_eq_false (by omega)
  have t2 : decide (4 < (X.size : Int)) = true := decide_eq_true (by omega)
  have hp : (0 : Int) < (X.size : Int) := by omega
  generalize hv : Value.string s = v at *
  clear hv
  go_enter Try.func26, Try.ntmps26
  go_wp2_with (first
    | (go_at_call 27; refine HT'.out.mono ?_; rintro x w1 ⟨rfl, hm⟩; have M1 := Lib.hid hm; clear hm)
    | (go_at_call 53; refine (HR'.out _ M1.out.1).mono ?_; rintro x w2 ⟨rfl, hm⟩; have M2 := Lib.hid hm; clear hm)
    | (go_at_call 28; refine (fail_s g K 0 2 _ v _ M2.out.1 rfl (by decide)).mono ?_; rintro x w3 ⟨rfl, hm⟩; have M3 := Lib.hid hm; clear hm))
  go_ret
  exact ⟨rfl, M1.out.then_s M2.out⟩
theorem takeweek_any (g : Nat) (s : ByteArray) (w : World) (h : Sk Ts w g (.string s) 0 0) (hs : s.size ≤ 1000) :
    Calls Try.prog 26 #[.pointer (some ⟨g, 0, none⟩)] w fun x w' => x = .returned (.string ⟨(wtx s.data.toList).toArray⟩) ∧ Mv Ts g (.string s) (sig s.data.toList + yl s.data.toList) (if wb s.data.toList then 2 else 0) w w' := by
  have hsz : s.data.toList.length = s.size := by simp
  have hle := yl_le s.data.toList
  rw [hsz] at hle
  have HT := takes_s g 0 0 (.string s) s 45 w h rfl (Nat.zero_le _) (by omega)
  rw [sig14_is, sig14_bool] at HT
  have HR : ∀ w1, Sk Ts w1 g (.string s) (sig s.data.toList) 0 → Calls Try.prog 53 #[.pointer (some ⟨g, 0, none⟩), .string ⟨#[48, 49, 50, 51, 52, 53, 54, 55, 56, 57]⟩] w1 fun x w' =>
      x = .returned (.string ⟨(wD s.data.toList).toArray⟩) ∧ Mv Ts g (.string s) (sig s.data.toList + yl s.data.toList) 0 w1 w' := by
    intro w1 h1
    have R := run_s g (sig s.data.toList) 0 (.string s) s ⟨#[48, 49, 50, 51, 52, 53, 54, 55, 56, 57]⟩ w1 h1 rfl (by omega) (by omega)
    rw [show (⟨#[48, 49, 50, 51, 52, 53, 54, 55, 56, 57]⟩ : ByteArray).data.toList = [48, 49, 50, 51, 52, 53, 54, 55, 56, 57] from rfl, tw_lead, rs_zero] at R
    exact R
  have hX : (⟨(wD s.data.toList).toArray⟩ : ByteArray).size = yl s.data.toList := by rw [← wD_len]; rfl
  have hL : (⟨(wD s.data.toList).toArray⟩ : ByteArray).toList = wD s.data.toList := ByteArray.toList_mk _
  have hlen := wD_len s.data.toList
  have hwt := wtx_is s.data.toList
  change wtx s.data.toList = if sig s.data.toList = 1 then 45 :: wD s.data.toList else wD s.data.toList at hwt
  have A0 : sig s.data.toList = 0 → ∀ W, (Op.stringOp .add ⟨#[]⟩ ⟨(wD s.data.toList).toArray⟩).run Try.prog W = .ok (.string ⟨(wtx s.data.toList).toArray⟩) W := by
    intro c W
    rw [hwt, if_neg (by omega)]
    exact run_string_add_lists W [] (wD s.data.toList) (by simp) (by omega)
  have A1 : sig s.data.toList = 1 → ∀ W, (Op.stringOp .add ⟨#[45]⟩ ⟨(wD s.data.toList).toArray⟩).run Try.prog W = .ok (.string ⟨(wtx s.data.toList).toArray⟩) W := by
    intro c W
    rw [hwt, if_pos c]
    exact run_string_add_lists W [45] (wD s.data.toList) (by simp) (by omega)
  have ways := wb_ways s.data.toList
  have so := sig_or s.data.toList
  have zero : ∀ {a : UInt8} {r : List UInt8}, wD s.data.toList = a :: r → ∃ hx : 0 < (⟨(wD s.data.toList).toArray⟩ : ByteArray).size, (⟨(wD s.data.toList).toArray⟩ : ByteArray)[0].toNat = a.toNat := by
    intro a r e
    generalize wD s.data.toList = D at *
    subst e
    exact ⟨by rw [hX]; simp at hlen; omega, rfl⟩
  have n48 : ∀ a : UInt8, a ≠ 48 → ((a.toNat : Int) == 48) = false := by
    intro a ha
    refine beq_eq_false_iff_ne.2 (fun e => ha ?_)
    exact UInt8.toNat.inj (by have : (48 : UInt8).toNat = 48 := rfl; omega)
  generalize hXd : (⟨(wD s.data.toList).toArray⟩ : ByteArray) = X at *
  generalize (⟨(wtx s.data.toList).toArray⟩ : ByteArray) = Y at *
  clear hXd hwt
  generalize hS : sig s.data.toList = S at *
  generalize hY : yl s.data.toList = N at *
  have eqf : wD s.data.toList ≠ [48, 48, 48, 48] → (X.toList == [48, 48, 48, 48]) = false := fun e => by rw [hL]; exact beq_eq_false_iff_ne.2 e
  have eqt : wD s.data.toList = [48, 48, 48, 48] → (X.toList == [48, 48, 48, 48]) = true := fun e => by rw [hL, e]; rfl
  rcases so with rfl | rfl
  · rw [show decide ((0 : Nat) = 1) = false from rfl] at HT
    rcases ways with ⟨c, b⟩ | ⟨c, _, b⟩ | ⟨c, k, _⟩ | ⟨c, k, _⟩ | ⟨c, ⟨r, e⟩, b⟩ | ⟨c, ⟨a, r, e, d⟩, _, b⟩
    · rw [if_pos b]; exact takeweek_few_p g _ N s X Y w c hX HT HR (A0 rfl)
    · rw [if_neg b]; exact takeweek_four_p g _ N s X Y w c hX HT HR (A0 rfl)
    · cases k
    · cases k
    · obtain ⟨hx, e2⟩ := zero e
      rw [if_pos b]; exact takeweek_zero_p g _ N s X Y w c hx (by rw [e2]; rfl) hX HT HR (A0 rfl)
    · obtain ⟨hx, e2⟩ := zero e
      rw [if_neg b]; exact takeweek_many_p g _ N s X Y w c hx (by rw [e2]; exact n48 a d) hX HT HR (A0 rfl)
  · rw [show decide ((1 : Nat) = 1) = true from rfl] at HT
    rcases ways with ⟨c, b⟩ | ⟨c, k, _⟩ | ⟨c, _, e, b⟩ | ⟨c, _, e, b⟩ | ⟨c, ⟨r, e⟩, b⟩ | ⟨c, ⟨a, r, e, d⟩, e3, b⟩
    · rw [if_pos b]; exact takeweek_few_n g _ N s X Y w c hX HT HR (A1 rfl)
    · cases k
    · rw [if_pos b]; exact takeweek_four_nz g _ N s X Y w c (eqt e) hX HT HR (A1 rfl)
    · rw [if_neg b]; exact takeweek_four_n g _ N s X Y w c (eqf e) hX HT HR (A1 rfl)
    · obtain ⟨hx, e2⟩ := zero e
      rw [if_pos b]; exact takeweek_zero_n g _ N s X Y w c hx (by rw [e2]; rfl) hX HT HR (A1 rfl)
    · obtain ⟨hx, e2⟩ := zero e
      rw [if_neg b]; exact takeweek_many_n g _ N s X Y w c hx (by rw [e2]; exact n48 a d) (eqf e3) hX HT HR (A1 rfl)

theorem gnew_s (s : ByteArray) (w : World) : Sk Ts (w.alloc (.cells #[.string s, .int .i64 0, .nilIface] Ts)) w.heap.size (.string s) 0 0 := heap_alloc_new w _
theorem fgK14_le (l : List UInt8) {k : Nat} (e a b : Int) (h : k ≤ l.length) : fgK k (rs l k e) e a b ≤ l.length := by
  unfold fgK; split
  · have h1 := tkK_le (rs l k e) a b mx; have h2 := rs_le l k e; omega
  · exact h
theorem wmK14_le (l : List UInt8) (b : UInt8) {k : Nat} (e : Int) (h : k ≤ l.length) : wmK l b k e ≤ l.length := by
  unfold wmK; split
  · next c =>
    have := rs_at (l := l) (k := k) (e := e) (by intro z; rw [z] at c; cases c)
    omega
  · exact h
theorem gS_fits {l : List UInt8} (h : gGood l) : 0 ≤ gS l ∧ gS l ≤ 999999 := by
  obtain ⟨_, h2, _, h4⟩ := h
  have hl : ((bd l).drop (yl l + 1)).length = 6 := by rw [List.length_drop]; omega
  have hd := dv_lt (lead_mem (l := (bd l).drop (yl l + 1)) (k := 6) h4)
  rw [List.take_of_length_le (by omega), hl] at hd
  unfold gS
  omega
set_option maxRecDepth 100000 in
set_option maxHeartbeats 2000000 in
theorem gparse_no (s Y : ByteArray) (w W0 : World) (g k1 k2 k3 : Nat) (e1 e2 e3 n : Int) (he : Hid (e2 = flE e1 2)) (hk : k2 = k1)
    (HN : Hid (Calls Try.prog 25 #[.string s] w fun x w' => x = .returned (.pointer (some ⟨g, 0, none⟩)) ∧ w' = W0)) (HB : Hid (Below w.heap.size w W0)) (HG : Hid (w.heap.size ≤ g)) (HG2 : Hid (w.heap.size ≤ W0.heap.size))
    (HY : Hid (Calls Try.prog 26 #[.pointer (some ⟨g, 0, none⟩)] W0 fun x w' => x = .returned (.string Y) ∧ Mv Ts g (.string s) k1 e1 W0 w'))
    (HT : Hid (∀ w1, Sk Ts w1 g (.string s) k1 e1 → Calls Try.prog 27 #[.pointer (some ⟨g, 0, none⟩), .int .u8 58] w1 fun x w' => x = .returned (.bool false) ∧ Mv Ts g (.string s) k1 e1 w1 w'))
    (HF : Hid (∀ w1, Sk Ts w1 g (.string s) k2 e2 → Calls Try.prog 29 #[.pointer (some ⟨g, 0, none⟩), .int .i64 6, .int .i64 6] w1 fun x w' => x = .returned (.int .i64 n) ∧ Mv Ts g (.string s) k3 e3 w1 w'))
    (HE : Hid (∀ w1, Sk Ts w1 g (.string s) k3 e3 → Calls Try.prog 30 #[.pointer (some ⟨g, 0, none⟩)] w1 fun x w' => x = .returned (ev 2) ∧ ∃ n, w' = w1.drewN n)) :
    Calls Try.prog 12 #[.string s] w fun x w' => x = .returned (.tuple #[.int .i64 0, ev 2]) ∧ Below w.heap.size w w' := by
  have q0 := fun op t W x k => guard_ev op t W x k
  have q2 := fun W k => neq_ev W k
  subst hk
  have ee := he.out
  go_enter Try.func12, Try.ntmps12
  go_wp2_with (first
    | (go_at_call 25; refine HN.out.mono ?_; rintro x w' ⟨rfl, rfl⟩)
    | (go_at_call 26; refine HY.out.mono ?_; rintro x w1 ⟨rfl, hm⟩; have K1 := Lib.hid hm.1; have M1 := Lib.hid hm; clear hm)
    | (go_at_call 27; refine (HT.out _ K1.out).mono ?_; rintro x w2 ⟨rfl, hm⟩; have K2 := Lib.hid hm.1; have M2 := Lib.hid (M1.out.then_s hm); clear hm)
    | (go_at_call 28; refine (fail_s g _ _ 2 _ _ _ K2.out rfl (by decide)).mono ?_; rintro x w3 ⟨rfl, hm⟩; rw [← ee] at hm; have K2 := Lib.hid hm.1; have M2 := Lib.hid (M2.out.then_s hm); clear hm)
    | (go_at_call 29; refine (HF.out _ K2.out).mono ?_; rintro x w4 ⟨rfl, hm⟩; have K4 := Lib.hid hm.1; have M4 := Lib.hid (M2.out.then_s hm); clear hm)
    | (go_at_call 30; refine (HE.out _ K4.out).mono ?_; rintro x w5 ⟨rfl, nq, rfl⟩))
  go_ret2
  exact ⟨rfl, HB.out.trans ((gb_bel (gb_draw M4.out.2 nq) HG.out HG2.out))⟩
set_option maxRecDepth 100000 in
set_option maxHeartbeats 2000000 in
theorem gparse_bad (s Y : ByteArray) (w W0 : World) (g k1 k2 k3 : Nat) (e1 e2 e3 n : Int) (he : e2 = e1)
    (HN : Hid (Calls Try.prog 25 #[.string s] w fun x w' => x = .returned (.pointer (some ⟨g, 0, none⟩)) ∧ w' = W0)) (HB : Hid (Below w.heap.size w W0)) (HG : Hid (w.heap.size ≤ g)) (HG2 : Hid (w.heap.size ≤ W0.heap.size))
    (HY : Hid (Calls Try.prog 26 #[.pointer (some ⟨g, 0, none⟩)] W0 fun x w' => x = .returned (.string Y) ∧ Mv Ts g (.string s) k1 e1 W0 w'))
    (HT : Hid (∀ w1, Sk Ts w1 g (.string s) k1 e1 → Calls Try.prog 27 #[.pointer (some ⟨g, 0, none⟩), .int .u8 58] w1 fun x w' => x = .returned (.bool true) ∧ Mv Ts g (.string s) k2 e1 w1 w'))
    (HF : Hid (∀ w1, Sk Ts w1 g (.string s) k2 e2 → Calls Try.prog 29 #[.pointer (some ⟨g, 0, none⟩), .int .i64 6, .int .i64 6] w1 fun x w' => x = .returned (.int .i64 n) ∧ Mv Ts g (.string s) k3 e3 w1 w'))
    (HE : Hid (∀ w1, Sk Ts w1 g (.string s) k3 e3 → Calls Try.prog 30 #[.pointer (some ⟨g, 0, none⟩)] w1 fun x w' => x = .returned (ev 2) ∧ ∃ n, w' = w1.drewN n)) :
    Calls Try.prog 12 #[.string s] w fun x w' => x = .returned (.tuple #[.int .i64 0, ev 2]) ∧ Below w.heap.size w w' := by
  have q0 := fun op t W x k => guard_ev op t W x k
  have q2 := fun W k => neq_ev W k
  subst he
  go_enter Try.func12, Try.ntmps12
  go_wp2_with (first
    | (go_at_call 25; refine HN.out.mono ?_; rintro x w' ⟨rfl, rfl⟩)
    | (go_at_call 26; refine HY.out.mono ?_; rintro x w1 ⟨rfl, hm⟩; have K1 := Lib.hid hm.1; have M1 := Lib.hid hm; clear hm)
    | (go_at_call 27; refine (HT.out _ K1.out).mono ?_; rintro x w2 ⟨rfl, hm⟩; have K2 := Lib.hid hm.1; have M2 := Lib.hid (M1.out.then_s hm); clear hm)
    | (go_at_call 29; refine (HF.out _ K2.out).mono ?_; rintro x w4 ⟨rfl, hm⟩; have K4 := Lib.hid hm.1; have M4 := Lib.hid (M2.out.then_s hm); clear hm)
    | (go_at_call 30; refine (HE.out _ K4.out).mono ?_; rintro x w5 ⟨rfl, nq, rfl⟩))
  go_ret2
  exact ⟨rfl, HB.out.trans ((gb_bel (gb_draw M4.out.2 nq) HG.out HG2.out))⟩
set_option maxRecDepth 100000 in
set_option maxHeartbeats 2000000 in
theorem gparse_over (s Y : ByteArray) (w W0 : World) (g k1 k2 k3 : Nat) (e1 e2 e3 n : Int) (he : e2 = e1)
    (HN : Hid (Calls Try.prog 25 #[.string s] w fun x w' => x = .returned (.pointer (some ⟨g, 0, none⟩)) ∧ w' = W0)) (HB : Hid (Below w.heap.size w W0)) (HG : Hid (w.heap.size ≤ g)) (HG2 : Hid (w.heap.size ≤ W0.heap.size))
    (HY : Hid (Calls Try.prog 26 #[.pointer (some ⟨g, 0, none⟩)] W0 fun x w' => x = .returned (.string Y) ∧ Mv Ts g (.string s) k1 e1 W0 w'))
    (HT : Hid (∀ w1, Sk Ts w1 g (.string s) k1 e1 → Calls Try.prog 27 #[.pointer (some ⟨g, 0, none⟩), .int .u8 58] w1 fun x w' => x = .returned (.bool true) ∧ Mv Ts g (.string s) k2 e1 w1 w'))
    (HF : Hid (∀ w1, Sk Ts w1 g (.string s) k2 e2 → Calls Try.prog 29 #[.pointer (some ⟨g, 0, none⟩), .int .i64 6, .int .i64 6] w1 fun x w' => x = .returned (.int .i64 n) ∧ Mv Ts g (.string s) k3 e3 w1 w'))
    (HE : Hid (∀ w1, Sk Ts w1 g (.string s) k3 e3 → Calls Try.prog 30 #[.pointer (some ⟨g, 0, none⟩)] w1 fun x w' => x = .returned (ev 0) ∧ ∃ n, w' = w1.drewN n))
    (HS : Hid (∀ w, Calls Try.prog 31 #[.string Y, .int .i64 20] w fun e w' => e = .returned (.tuple #[.int .i64 0, ev 5]) ∧ w = w')) :
    Calls Try.prog 12 #[.string s] w fun x w' => x = .returned (.tuple #[.int .i64 0, ev 5]) ∧ Below w.heap.size w w' := by
  have q0 := fun op t W x k => guard_ev op t W x k
  have q2 := fun W k => neq_ev W k
  subst he
  go_enter Try.func12, Try.ntmps12
  go_wp2_with (first
    | (go_at_call 25; refine HN.out.mono ?_; rintro x w' ⟨rfl, rfl⟩)
    | (go_at_call 26; refine HY.out.mono ?_; rintro x w1 ⟨rfl, hm⟩; have K1 := Lib.hid hm.1; have M1 := Lib.hid hm; clear hm)
    | (go_at_call 27; refine (HT.out _ K1.out).mono ?_; rintro x w2 ⟨rfl, hm⟩; have K2 := Lib.hid hm.1; have M2 := Lib.hid (M1.out.then_s hm); clear hm)
    | (go_at_call 29; refine (HF.out _ K2.out).mono ?_; rintro x w4 ⟨rfl, hm⟩; have K4 := Lib.hid hm.1; have M4 := Lib.hid (M2.out.then_s hm); clear hm)
    | (go_at_call 30; refine (HE.out _ K4.out).mono ?_; rintro x w5 ⟨rfl, nq, rfl⟩)
    | (go_at_call 31; refine (HS.out _).mono ?_; rintro e w6 ⟨rfl, rfl⟩))
  go_ret2
  exact ⟨rfl, HB.out.trans ((gb_bel (gb_draw M4.out.2 nq) HG.out HG2.out))⟩
set_option maxRecDepth 100000 in
set_option maxHeartbeats 2000000 in
theorem gparse_good (s Y : ByteArray) (w W0 : World) (g k1 k2 k3 : Nat) (e1 e2 e3 n : Int) (V z r : Int) (he : e2 = e1) (hn : IntKind.i64.wrap n = n)
    (HN : Hid (Calls Try.prog 25 #[.string s] w fun x w' => x = .returned (.pointer (some ⟨g, 0, none⟩)) ∧ w' = W0)) (HB : Hid (Below w.heap.size w W0)) (HG : Hid (w.heap.size ≤ g)) (HG2 : Hid (w.heap.size ≤ W0.heap.size))
    (HY : Hid (Calls Try.prog 26 #[.pointer (some ⟨g, 0, none⟩)] W0 fun x w' => x = .returned (.string Y) ∧ Mv Ts g (.string s) k1 e1 W0 w'))
    (HT : Hid (∀ w1, Sk Ts w1 g (.string s) k1 e1 → Calls Try.prog 27 #[.pointer (some ⟨g, 0, none⟩), .int .u8 58] w1 fun x w' => x = .returned (.bool true) ∧ Mv Ts g (.string s) k2 e1 w1 w'))
    (HF : Hid (∀ w1, Sk Ts w1 g (.string s) k2 e2 → Calls Try.prog 29 #[.pointer (some ⟨g, 0, none⟩), .int .i64 6, .int .i64 6] w1 fun x w' => x = .returned (.int .i64 n) ∧ Mv Ts g (.string s) k3 e3 w1 w'))
    (HE : Hid (∀ w1, Sk Ts w1 g (.string s) k3 e3 → Calls Try.prog 30 #[.pointer (some ⟨g, 0, none⟩)] w1 fun x w' => x = .returned (ev 0) ∧ ∃ n, w' = w1.drewN n))
    (HS : Hid (∀ w, Calls Try.prog 31 #[.string Y, .int .i64 20] w fun e w' => e = .returned (.tuple #[.int .i64 V, ev 0]) ∧ w = w'))
    (HA : Hid (∀ w, Calls Try.prog 18 #[.int .i64 V, .int .i64 n] w fun e w' => e = .returned (.tuple #[.int .i64 z, ev r]) ∧ Below w.heap.size w w')) :
    Calls Try.prog 12 #[.string s] w fun x w' => x = .returned (.tuple #[.int .i64 z, ev r]) ∧ Below w.heap.size w w' := by
  have q0 := fun op t W x k => guard_ev op t W x k
  have q2 := fun W k => neq_ev W k
  subst he
  go_enter Try.func12, Try.ntmps12
  go_wp2_with (first
    | (go_at_call 25; refine HN.out.mono ?_; rintro x w' ⟨rfl, rfl⟩)
    | (go_at_call 26; refine HY.out.mono ?_; rintro x w1 ⟨rfl, hm⟩; have K1 := Lib.hid hm.1; have M1 := Lib.hid hm; clear hm)
    | (go_at_call 27; refine (HT.out _ K1.out).mono ?_; rintro x w2 ⟨rfl, hm⟩; have K2 := Lib.hid hm.1; have M2 := Lib.hid (M1.out.then_s hm); clear hm)
    | (go_at_call 29; refine (HF.out _ K2.out).mono ?_; rintro x w4 ⟨rfl, hm⟩; have K4 := Lib.hid hm.1; have M4 := Lib.hid (M2.out.then_s hm); clear hm)
    | (go_at_call 30; refine (HE.out _ K4.out).mono ?_; rintro x w5 ⟨rfl, nq, rfl⟩)
    | (go_at_call 31; refine (HS.out _).mono ?_; rintro e w6 ⟨rfl, rfl⟩)
    | (go_at_call 18; refine (HA.out _).mono ?_; rintro e w7 ⟨rfl, hb⟩))
  go_ret2
  exact ⟨rfl, have B5 := HB.out.trans ((gb_bel (gb_draw M4.out.2 nq) HG.out HG2.out)); B5.trans (hb.mono B5.size)⟩
theorem gparse_any (s : ByteArray) (w : World) (hs : s.size ≤ 1000) :
    Calls Try.prog 12 #[.string s] w fun x w' => x = .returned (.tuple #[.int .i64 (gpN s.data.toList), ev (gpE s.data.toList)]) ∧ Below w.heap.size w w' := by
  have hsz : s.data.toList.length = s.size := by simp
  have hl := yl_le s.data.toList
  obtain ⟨W0, hW0⟩ : ∃ W0, W0 = w.alloc (.cells #[.string s, .int .i64 0, .nilIface] Ts) := ⟨_, rfl⟩
  have hN := new_s s w
  have hK := gnew_s s w
  have B0 : Below w.heap.size w (w.alloc (.cells #[.string s, .int .i64 0, .nilIface] Ts)) := (Below.refl _ w).alloc (Nat.le_refl _) _
  rw [← hW0] at hN hK B0
  have HY := takeweek_any w.heap.size s W0 hK hs
  obtain ⟨k1, hk1⟩ : ∃ k, k = sig s.data.toList + yl s.data.toList := ⟨_, rfl⟩
  obtain ⟨e1, he1⟩ : ∃ e : Int, e = if wb s.data.toList then 2 else 0 := ⟨_, rfl⟩
  have P := @parse_is14 s.data.toList
  rw [← hk1] at P HY hl
  rw [← he1] at HY
  have HT := fun w1 h1 => takes_s w.heap.size k1 e1 (.string s) s 58 w1 h1 rfl (by omega) (by omega)
  obtain ⟨k2, hk2⟩ : ∃ k, k = wmK s.data.toList 58 k1 e1 := ⟨_, rfl⟩
  obtain ⟨e2, he2⟩ : ∃ e, e = wmE s.data.toList 58 k1 e1 := ⟨_, rfl⟩
  have f2 := wmK14_le s.data.toList 58 e1 (k := k1) hl
  rw [← hk2] at f2
  have HF := fun w1 h1 => figures_s w.heap.size k2 e2 6 6 (.string s) s w1 h1 rfl (by omega) (by omega) (by decide) (by decide)
  have f3 := fgK14_le s.data.toList (k := k2) e2 6 6 f2
  obtain ⟨k3, hk3⟩ : ∃ k, k = fgK k2 (rs s.data.toList k2 e2) e2 6 6 := ⟨_, rfl⟩
  obtain ⟨e3, he3⟩ : ∃ e, e = fgE (rs s.data.toList k2 e2) e2 6 6 := ⟨_, rfl⟩
  rw [← hk3] at f3
  have HE := fun w1 h1 => end_s w.heap.size k3 e3 (.string s) s w1 h1 rfl (by omega) (by omega)
  have P' := P he1 he2 hk2 he3 hk3
  rw [← hk3, ← he3] at HF
  obtain ⟨n, hn⟩ : ∃ n, n = fgN (rs s.data.toList k2 e2) e2 6 6 := ⟨_, rfl⟩
  rw [← hn] at HF P'
  have HN := Lib.hid hN; have HB := Lib.hid B0; have HG := Lib.hid (Nat.le_refl w.heap.size); have HG2 := Lib.hid B0.size; have HY' := Lib.hid HY
  by_cases c : (rs s.data.toList k1 e1).head? = some 58
  · have m1 : e2 = e1 := by rw [he2]; exact if_pos c
    have m2 : k2 = k1 + 1 := by rw [hk2]; exact if_pos c
    rw [if_pos c, c, show (some (58 : UInt8) == some 58) = true by simp, ← m2] at HT
    rcases P' with ⟨b, r⟩ | ⟨b, r, e⟩
    · rw [r] at HE
      have z1 : gpN s.data.toList = 0 := if_neg b
      have z2 : gpE s.data.toList = 2 := if_neg b
      rw [z1, z2]
      exact gparse_bad s _ w W0 _ k1 k2 k3 e1 e2 e3 n m1 HN HB HG HG2 HY' (Lib.hid HT) (Lib.hid HF) (Lib.hid HE)
    · rw [r] at HE
      have hle : (wtx s.data.toList).length ≤ 1000 := by unfold wtx; rw [List.length_take]; omega
      have HS := fun w => signed_any ⟨(wtx s.data.toList).toArray⟩ 20 w (by rw [Lib.size_mk]; unfold maxLen; omega) (by decide)
      rw [show (⟨(wtx s.data.toList).toArray⟩ : ByteArray).data.toList = wtx s.data.toList by simp, (sg_week b.1).1, (sg_week b.1).2] at HS
      by_cases d : fits (gY s.data.toList)
      · have gs := gS_fits b
        have z1 : gpN s.data.toList = taN (gY s.data.toList) (gS s.data.toList) := by unfold gpN; rw [if_pos b, if_pos d]
        have z2 : gpE s.data.toList = taE (gY s.data.toList) (gS s.data.toList) := by unfold gpE; rw [if_pos b, if_pos d]
        rw [z1, z2]
        rw [sm_fit d, bad_fit d] at HS
        rw [← e] at gs ⊢
        exact gparse_good s _ w W0 _ k1 k2 k3 e1 e2 e3 n _ _ _ m1 (IntWalk.i64_in _ (by omega)) HN HB HG HG2 HY' (Lib.hid HT) (Lib.hid HF) (Lib.hid HE) (Lib.hid HS) (Lib.hid (fun w => gtai_any _ n w d (by unfold fits; omega)))
      · have z1 : gpN s.data.toList = 0 := by unfold gpN; rw [if_pos b, if_neg d]
        have z2 : gpE s.data.toList = 5 := by unfold gpE; rw [if_pos b, if_neg d]
        rw [z1, z2]
        rw [sm_no d, bad_no d] at HS
        exact gparse_over s _ w W0 _ k1 k2 k3 e1 e2 e3 n m1 HN HB HG HG2 HY' (Lib.hid HT) (Lib.hid HF) (Lib.hid HE) (Lib.hid HS)
  · have m1 : e2 = flE e1 2 := by rw [he2]; exact if_neg c
    have m2 : k2 = k1 := by rw [hk2]; exact if_neg c
    rw [if_neg c, show ((rs s.data.toList k1 e1).head? == some 58) = false by simpa using c] at HT
    rcases P' with ⟨b, r⟩ | ⟨b, r, e⟩
    · rw [r] at HE
      have z1 : gpN s.data.toList = 0 := if_neg b
      have z2 : gpE s.data.toList = 2 := if_neg b
      rw [z1, z2]
      exact gparse_no s _ w W0 _ k1 k2 k3 e1 e2 e3 n (Lib.hid m1) m2 HN HB HG HG2 HY' (Lib.hid HT) (Lib.hid HF) (Lib.hid HE)
    · exfalso
      rw [if_neg b.1] at he1
      subst he1
      apply c
      rw [rs_zero, List.head?_drop, hk1, bd_at]
      exact b.2.2.1

end Go.Proofs.Ytjbbnlcghnjlfaa
