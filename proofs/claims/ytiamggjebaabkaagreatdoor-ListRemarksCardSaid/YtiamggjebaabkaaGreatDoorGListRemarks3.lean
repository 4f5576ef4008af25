/- Merged: ListS. -/
import Derived.Test.YtiamggjebaabkaaGreatDoorGListRemarks1
import Derived.Test.YtiamggjebaabkaaGreatDoorGListRemarks2
import Derived.Lib.AtoiErrMem
import Derived.Laws.Strings3
import Derived.Laws.Closers25
import Derived.Laws.Closers25b
import Derived.BigCall
import Derived.BigGuard
namespace Go.Proofs.YtiamggjebaabkaaGreatDoor
open Go.RowKit
set_option linter.unusedVariables false
set_option linter.unusedSimpArgs false

/-- The number of signs behind a number, if it fits 32 bits. -/
def pu16 (a : Nat) : List UInt8 → Option Nat
  | [] => some a
  | c :: r => if 4294967295 < a * 16 + (hv c).getD 0 then none else pu16 (a * 16 + (hv c).getD 0) r
/-- What the two ParseUints answer. -/
def puV (o : Option Nat) : Int := ((o.getD 4294967295 : Nat) : Int)
theorem pu_lt : ∀ (l : List UInt8) (a n : Nat), a ≤ 4294967295 → pu16 a l = some n → n ≤ 4294967295
  | [], a, n, h, e => by injection e with e; omega
  | c :: r, a, n, h, e => by
    rw [pu16] at e
    split at e
    · cases e
    · exact pu_lt r _ n (by omega) e
theorem hv_cases {c : UInt8} (h : (hv c).isSome = true) : (48 ≤ c.toNat ∧ c.toNat ≤ 57 ∧ hv c = some (c.toNat - 48)) ∨ (97 ≤ c.toNat ∧ c.toNat ≤ 102 ∧ hv c = some (c.toNat - 87)) ∨ (65 ≤ c.toNat ∧ c.toNat ≤ 70 ∧ hv c = some (c.toNat - 55)) := by
  unfold hv at h ⊢
  split at h
  · next a => exact .inl ⟨a.1, a.2, by rw [if_pos a]⟩
  split at h
  · next a b => exact .inr (.inl ⟨b.1, b.2, by rw [if_neg a, if_pos b]⟩)
  split at h
  · next a b c => exact .inr (.inr ⟨c.1, c.2, by rw [if_neg a, if_neg b, if_pos c]⟩)
  · cases h
/-- A sign's lower form, and its number. -/
theorem or32 : ∀ n : Nat, n < 256 → (97 ≤ n ∧ n ≤ 102 → bits .or .u8 (n : Int) 32 = (n : Int)) ∧ (65 ≤ n ∧ n ≤ 70 → bits .or .u8 (n : Int) 32 = (n : Int) + 32) := by decide +kernel

set_option maxRecDepth 100000 in
theorem pu_empty (w : World) : Calls Tryz.prog 173 #[.string ⟨#[]⟩, .int .i64 16, .int .i64 32] w fun e w' => e = .returned (.tuple #[.int .u64 0, .iface 257 (.int .i64 2)]) ∧ w = w' := by
  go_enter Tryz.func173, Tryz.ntmps173
  go_wp2
  go_ret2
  exact ⟨rfl, rfl⟩
/-- The tuple: the number, or the greatest and an error. -/
def puT (o : Option Nat) : Value := .tuple #[.int .u64 (puV o), if o.isSome = true then .nilIface else .iface 257 (.int .i64 1)]
set_option maxHeartbeats 32000000 in
set_option maxRecDepth 100000 in
theorem pu_any (t : ByteArray) (w : World) (hne : t.size ≠ 0) (ht : t.size ≤ 100000) (hx : hxA t.data.toList = true) :
    Calls Tryz.prog 173 #[.string t, .int .i64 16, .int .i64 32] w fun e w' => e = .returned (puT (pu16 0 t.data.toList)) ∧ Below w.heap.size w w' := by
  have hemp : t.toList.isEmpty = false := by
    rw [← decide_eq_emptyBytes]
    exact decide_eq_false (fun h => hne (by rw [h]; rfl))
  have hcv := Lib.run_convert_string_bytes (P := Tryz.prog) w 9 59 5 t (u := .string) Tryz.underlying9 Tryz.underlying59 Tryz.underlying5
  have hB : ∀ j, j < t.size → (Lib.bytesWorld w 5 t).cell? ⟨w.heap.size, j, none⟩ = some (.int .u8 (t.data.toList.getD j 0).toNat) := fun j hj => Lib.bytesWorld_cell w 5 t j hj
  have B1 := Lib.hid (Lib.bytesWorld_below w 5 t)
  obtain ⟨W1, hW1⟩ : ∃ W1, W1 = Lib.bytesWorld w 5 t := ⟨_, rfl⟩
  rw [← hW1] at hcv hB B1
  clear hW1
  obtain ⟨bs, hL⟩ : ∃ bs, bs = t.data.toList := ⟨_, rfl⟩
  have hLn : bs.length = t.size := by rw [hL]; simp
  rw [← hL] at hB hx ⊢
  clear hL hne
  have HX := Lib.hid hx
  have HB := Lib.hid hB
  clear hx hB
  have hmv : IntKind.u64.wrap (IntKind.u64.wrap 4294967296 - 1) = 4294967295 := by
    rw [IntKind.wrap_u64, IntKind.wrap_u64]; decide
  obtain ⟨N, hN⟩ : ∃ N, t.size = N := ⟨_, rfl⟩
  rw [hN] at hLn ht HB hcv
  have HN := Lib.hid hN
  clear hN
  go_enter Tryz.func173, Tryz.ntmps173
  go_wp2
  go_loop [12, 13, 101] (fun vu vn vi => ∃ (k acc : Nat) (a : Int), vu = .bool false ∧ vn = .int .u64 a ∧ vi = .int .i64 k ∧ k ≤ N ∧ Hid (a = (acc : Int) ∧ acc ≤ 4294967295 ∧ pu16 0 bs = pu16 acc (bs.drop k))) (fun _ _ vi => N - (intOf vi).toNat)
  case atStart => exact ⟨0, 0, 0, rfl, rfl, rfl, by omega, Lib.hid ⟨rfl, by omega, by simp⟩⟩
  case round =>
    obtain ⟨k, acc, a, rfl, rfl, rfl, hk, hh⟩ := hrel
    obtain ⟨ha, hacc, hdec⟩ := hh.out
    clear hh
    have a0 : 0 ≤ a := by omega
    have a1 : a ≤ 4294967295 := by omega
    by_cases hkn : k < N
    · have hc := HB.out k hkn
      have hlt : k < bs.length := by omega
      have hdrop : bs.drop k = bs[k] :: bs.drop (k + 1) := List.drop_eq_getElem_cons hlt
      have hget : bs.getD k 0 = bs[k] := by simp [List.getD, List.getElem?_eq_getElem hlt]
      have hs : (hv bs[k]).isSome = true := List.all_eq_true.1 HX.out _ (List.getElem_mem hlt)
      rw [hdrop, pu16] at hdec
      rw [hget] at hc
      generalize bs[k] = c at hc hdec hs
      have hc256 : c.toNat < 256 := c.toNat_lt
      obtain ⟨o1, o2⟩ := or32 c.toNat hc256
      obtain ⟨z, hz⟩ : ∃ z : Int, z = (c.toNat : Int) := ⟨_, rfl⟩
      obtain ⟨d, hd⟩ : ∃ d : Nat, d = (hv c).getD 0 := ⟨_, rfl⟩
      rw [← hz] at hc o1 o2
      rw [← hd] at hdec
      obtain ⟨A, hA⟩ : ∃ A : Nat, A = acc * 16 + d := ⟨_, rfl⟩
      rw [← hA] at hdec
      clear hdrop hget hlt
      rcases hv_cases hs with ⟨c1, c2, c3⟩ | ⟨c1, c2, c3⟩ | ⟨c1, c2, c3⟩
      · have hdz : (d : Int) = z - 48 := by rw [hd, c3, hz]; simp; omega
        have z1 : 48 ≤ z := by omega
        have z2 : z ≤ 57 := by omega
        clear o1 o2 hs c3 hd hc256
        have w1 : IntKind.u64.wrap (a * 16) = a * 16 := by rw [IntKind.wrap_u64]; omega
        have w2 : IntKind.u64.wrap (a * 16 + (z - 48)) = a * 16 + (z - 48) := by rw [IntKind.wrap_u64]; omega
        by_cases hov : 4294967295 < A
        · rw [if_pos hov] at hdec
          have iov : 4294967295 < a * 16 + (z - 48) := by omega
          have HD := Lib.hid hdec
          clear hdec ha hdz hz hA hov c1 c2 hacc
          go_wp2
          go_ret2
          exact ⟨by rw [HD.out]; rfl, B1.out⟩
        · rw [if_neg hov] at hdec
          have iov : a * 16 + (z - 48) ≤ 4294967295 := by omega
          have HD : Hid (a * 16 + (z - 48) = (A : Int) ∧ A ≤ 4294967295 ∧ pu16 0 bs = pu16 A (bs.drop (k + 1))) := Lib.hid ⟨by omega, by omega, hdec⟩
          clear hdec ha hdz hz hA hov c1 c2 hacc
          go_wp2
          refine ⟨⟨k + 1, A, a * 16 + (z - 48), rfl, (by first | rfl | (congr 1; omega)), (by first | rfl | (congr 1; omega)), by omega, HD⟩, by simp [intOf]; omega⟩
      · have hdz : (d : Int) = z - 87 := by rw [hd, c3, hz]; simp; omega
        have z1 : 97 ≤ z := by omega
        have z2 : z ≤ 102 := by omega
        have o3 := o1 ⟨c1, c2⟩
        clear o1 o2 hs c3 hd hc256
        have w1 : IntKind.u64.wrap (a * 16) = a * 16 := by rw [IntKind.wrap_u64]; omega
        have w2 : IntKind.u64.wrap (a * 16 + (z - 97 + 10)) = a * 16 + (z - 97 + 10) := by rw [IntKind.wrap_u64]; omega
        by_cases hov : 4294967295 < A
        · rw [if_pos hov] at hdec
          have iov : 4294967295 < a * 16 + (z - 97 + 10) := by omega
          have HD := Lib.hid hdec
          clear hdec ha hdz hz hA hov c1 c2 hacc
          go_wp2_with (go_at_call 194; refine (Tryz.internal_strconv_lower _ _).mono ?_; rintro e w' ⟨rfl, rfl⟩)
          go_ret2
          exact ⟨by rw [HD.out]; rfl, B1.out⟩
        · rw [if_neg hov] at hdec
          have iov : a * 16 + (z - 97 + 10) ≤ 4294967295 := by omega
          have HD : Hid (a * 16 + (z - 97 + 10) = (A : Int) ∧ A ≤ 4294967295 ∧ pu16 0 bs = pu16 A (bs.drop (k + 1))) := Lib.hid ⟨by omega, by omega, hdec⟩
          clear hdec ha hdz hz hA hov c1 c2 hacc
          go_wp2_with (go_at_call 194; refine (Tryz.internal_strconv_lower _ _).mono ?_; rintro e w' ⟨rfl, rfl⟩)
          refine ⟨⟨k + 1, A, a * 16 + (z - 97 + 10), rfl, (by first | rfl | (congr 1; omega)), (by first | rfl | (congr 1; omega)), by omega, HD⟩, by simp [intOf]; omega⟩
      · have hdz : (d : Int) = z - 55 := by rw [hd, c3, hz]; simp; omega
        have z1 : 65 ≤ z := by omega
        have z2 : z ≤ 70 := by omega
        have o3 := o2 ⟨c1, c2⟩
        clear o1 o2 hs c3 hd hc256
        have w1 : IntKind.u64.wrap (a * 16) = a * 16 := by rw [IntKind.wrap_u64]; omega
        have w2 : IntKind.u64.wrap (a * 16 + (z + 32 - 97 + 10)) = a * 16 + (z + 32 - 97 + 10) := by rw [IntKind.wrap_u64]; omega
        by_cases hov : 4294967295 < A
        · rw [if_pos hov] at hdec
          have iov : 4294967295 < a * 16 + (z + 32 - 97 + 10) := by omega
          have HD := Lib.hid hdec
          clear hdec ha hdz hz hA hov c1 c2 hacc
          go_wp2_with (go_at_call 194; refine (Tryz.internal_strconv_lower _ _).mono ?_; rintro e w' ⟨rfl, rfl⟩)
          go_ret2
          exact ⟨by rw [HD.out]; rfl, B1.out⟩
        · rw [if_neg hov] at hdec
          have iov : a * 16 + (z + 32 - 97 + 10) ≤ 4294967295 := by omega
          have HD : Hid (a * 16 + (z + 32 - 97 + 10) = (A : Int) ∧ A ≤ 4294967295 ∧ pu16 0 bs = pu16 A (bs.drop (k + 1))) := Lib.hid ⟨by omega, by omega, hdec⟩
          clear hdec ha hdz hz hA hov c1 c2 hacc
          go_wp2_with (go_at_call 194; refine (Tryz.internal_strconv_lower _ _).mono ?_; rintro e w' ⟨rfl, rfl⟩)
          refine ⟨⟨k + 1, A, a * 16 + (z + 32 - 97 + 10), rfl, (by first | rfl | (congr 1; omega)), (by first | rfl | (congr 1; omega)), by omega, HD⟩, by simp [intOf]; omega⟩
    · obtain rfl : k = N := by omega
      rw [List.drop_eq_nil_of_le (by omega), pu16] at hdec
      have HD : Hid (pu16 0 bs = some acc ∧ a = (acc : Int)) := Lib.hid ⟨hdec, ha⟩
      clear hdec ha hacc
      go_wp2
      go_ret2
      exact ⟨by rw [HD.out.1, HD.out.2]; rfl, B1.out⟩

end Go.Proofs.YtiamggjebaabkaaGreatDoor
