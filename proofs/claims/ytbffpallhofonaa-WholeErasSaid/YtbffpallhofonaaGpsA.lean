/- Package gps: Of, Tai, Short, Long, Near. -/
import Derived.Test.YtbffpallhofonaaGpsM
import Derived.Test.YtbffpallhofonaaEraA
import Derived.Test.YtbffpallhofonaaNumB
import Derived.Test.YtbffpallhofonaaNumF
import Derived.Test.YtbffpallhofonaaBlk
namespace Go.Proofs.Ytbffpallhofonaa
open Go.RowKit
set_option linter.unusedVariables false
set_option linter.unusedSimpArgs false

theorem gshort_any (t : Int) (w : World) (ht : fits t) :
    Calls Try.prog 37 #[.int .i64 t] w fun e w' => e = .returned (.int .i64 (fo t 10)) ∧ w = w' := by
  have HF := Lib.hid (fun w => foldbits_yes t 10 w ht (by decide) (by decide))
  have hb := fo_bd t 10
  rw [pw_10] at hb
  have r1 : IntKind.i64.wrap (fo t 10) = fo t 10 := IntWalk.i64_in _ (by omega)
  generalize fo t 10 = F at *
  clear ht hb
  go_enter Try.func37, Try.ntmps37
  go_wp2_with (go_at_call 56; refine (HF.out _).mono ?_; rintro e w' ⟨rfl, rfl⟩)
  go_ret
  exact ⟨rfl, rfl⟩

theorem glong_any (x p : Int) (w : World) (hx : fits x) (hp : fits p) :
    Calls Try.prog 36 #[.int .i64 x, .int .i64 p] w fun e w' => e = .returned (.tuple #[.int .i64 (loN x p), ev (loE x p)]) ∧ w = w' := by
  have HB := Lib.hid (fun w => bits_any (x % 18446744073709551616) 10 p w (by omega) (by omega) hp)
  rw [(lo_is hx).1, (lo_is hx).2] at HB
  have r1 : IntKind.u64.wrap x = x % 18446744073709551616 := IntKind.wrap_u64 x
  generalize loN x p = V at *
  generalize loE x p = E at *
  clear hx hp
  go_enter Try.func36, Try.ntmps36
  go_wp2_with (go_at_call 55; refine (HB.out _).mono ?_; rintro e w' ⟨rfl, rfl⟩)
  go_ret2
  exact ⟨rfl, rfl⟩

/-! three numbers added -/
theorem run3 (a b c : Int) : run 0 [a, b, c] = if fits a ∧ fits (a + b) ∧ fits (a + b + c) then some (a + b + c) else none := by
  simp only [run, Int.zero_add]
  by_cases h1 : fits a
  · by_cases h2 : fits (a + b)
    · by_cases h3 : fits (a + b + c)
      · rw [if_pos h1, if_pos h2, if_pos h3, if_pos ⟨h1, h2, h3⟩]
      · rw [if_pos h1, if_pos h2, if_neg h3, if_neg (fun h => h3 h.2.2)]
    · rw [if_pos h1, if_neg h2, if_neg (fun h => h2 h.2.1)]
  · rw [if_neg h1, if_neg (fun h => h1 h.1)]
theorem ta_sum {w s : Int} (h : ¬ (s < 0 ∨ 604799 < s)) (h1 : fits (w * 604800)) : sumV [w * 604800, s, 315964819] = taN w s ∧ sumE [w * 604800, s, 315964819] = taE w s := by
  unfold sumV sumE
  rw [run3]
  by_cases c : fits (w * 604800) ∧ fits (w * 604800 + s) ∧ fits (w * 604800 + s + 315964819)
  · obtain ⟨e1, e2⟩ := ta_yes h c.1 c.2.1 c.2.2
    rw [if_pos c, e1, e2]; exact ⟨rfl, rfl⟩
  · obtain ⟨e1, e2⟩ := ta_over h c
    rw [if_neg c, e1, e2]; exact ⟨rfl, rfl⟩
theorem ri3 {W : World} {g : Nat} {a b c : Int} {T : TypeId} (h : W.heap[g]? = some (.cells #[.int .i64 a, .int .i64 b, .int .i64 c] T (0, 0))) (ha : fits a) (hb : fits b) (hc : fits c) : Ri W (some ⟨g, 0, none⟩) [a, b, c] := by
  refine ⟨?_, .inr ⟨g, 0, rfl, bk_lt h, ?_⟩⟩
  · intro z hz
    simp at hz
    rcases hz with rfl | rfl | rfl <;> assumption
  · intro j hj
    rw [bk_cell h]
    match j, hj with
    | 0, _ => rfl
    | 1, _ => rfl
    | 2, _ => rfl
end Go.Proofs.Ytbffpallhofonaa
