/- Merged: ListS, FigA, FigB. -/
import Derived.Test.YtiamggjebaabkaaGreatDoorGListPuts1
import Derived.Test.YtiamggjebaabkaaGreatDoorGListPuts2
import Derived.Lib.AtoiErrMem
import Derived.Laws.Strings3
import Derived.Laws.Closers25
import Derived.Laws.Closers25b
import Derived.BigCall
import Derived.BigGuard
import Derived.LoopTactic
import Derived.Lib.Walk
import Derived.Lib.SmallJoins
namespace Go.Proofs.YtiamggjebaabkaaGreatDoor
open Go.RowKit
set_option linter.unusedVariables false
set_option linter.unusedSimpArgs false

/-- The number of signs behind a number, if it fits 32 bits. -/
def pu16 (a : Nat) : List UInt8 → Option Nat
  | [] => some a
  | c :: r => if 4294967295 < a * 16 + (hv c).getD 0 then none else pu16 (a * 16 + (hv c).getD 0) r
/-- What the two ParseUints answer. -/
def puV (o : Option Nat) : Int := ((o.getD 4294967295 : Nat) : Int)
theorem pu_lt : ∀ (l : List UInt8) (a n : Nat), a ≤ 4294967295 → pu16 a l = some n → n ≤ 4294967295
  | [], a, n, h, e => by injection e with e; omega
  | c :: r, a, n, h, e => by
    rw [pu16] at e
    split at e
    · cases e
    · exact pu_lt r _ n (by omega) e
theorem hv_cases {c : UInt8} (h : (hv c).isSome = true) : (48 ≤ c.toNat ∧ c.toNat ≤ 57 ∧ hv c = some (c.toNat - 48)) ∨ (97 ≤ c.toNat ∧ c.toNat ≤ 102 ∧ hv c = some (c.toNat - 87)) ∨ (65 ≤ c.toNat ∧ c.toNat ≤ 70 ∧ hv c = some (c.toNat - 55)) := by
  unfold hv at h ⊢
  split at h
  · next a => exact .inl ⟨a.1, a.2, by rw [if_pos a]⟩
  split at h
  · next a b => exact .inr (.inl ⟨b.1, b.2, by rw [if_neg a, if_pos b]⟩)
  split at h
  · next a b c => exact .inr (.inr ⟨c.1, c.2, by rw [if_neg a, if_neg b, if_pos c]⟩)
  · cases h
/-- A sign's lower form, and its number. -/
theorem or32 : ∀ n : Nat, n < 256 → (97 ≤ n ∧ n ≤ 102 → bits .or .u8 (n : Int) 32 = (n : Int)) ∧ (65 ≤ n ∧ n ≤ 70 → bits .or .u8 (n : Int) 32 = (n : Int) + 32) := by decide +kernel

set_option maxRecDepth 100000 in
theorem pu_empty (w : World) : Calls Tryz.prog 173 #[.string ⟨#[]⟩, .int .i64 16, .int .i64 32] w fun e w' => e = .returned (.tuple #[.int .u64 0, .iface 257 (.int .i64 2)]) ∧ w = w' := by
  go_enter Tryz.func173, Tryz.ntmps173
  go_wp2
  go_ret2
  exact ⟨rfl, rfl⟩
/-- The tuple: the number, or the greatest and an error. -/
def puT (o : Option Nat) : Value := .tuple #[.int .u64 (puV o), if o.isSome = true then .nilIface else .iface 257 (.int .i64 1)]
set_option maxHeartbeats 32000000 in
set_option maxRecDepth 100000 in
theorem pu_any (t : ByteArray) (w : World) (hne : t.size ≠ 0) (ht : t.size ≤ 100000) (hx : hxA t.data.toList = true) :
    Calls Tryz.prog 173 #[.string t, .int .i64 16, .int .i64 32] w fun e w' => e = .returned (puT (pu16 0 t.data.toList)) ∧ Below w.heap.size w w' := by
  have hemp : t.toList.isEmpty = false := by
    rw [← decide_eq_emptyBytes]
    exact decide_eq_false (fun h => hne (by rw [h]; rfl))
  have hcv := Lib.run_convert_string_bytes (P := Tryz.prog) w 9 59 5 t (u := .string) Tryz.underlying9 Tryz.underlying59 Tryz.underlying5
  have hB : ∀ j, j < t.size → (Lib.bytesWorld w 5 t).cell? ⟨w.heap.size, j, none⟩ = some (.int .u8 (t.data.toList.getD j 0).toNat) := fun j hj => Lib.bytesWorld_cell w 5 t j hj
  have B1 := Lib.hid (Lib.bytesWorld_below w 5 t)
  obtain ⟨W1, hW1⟩ : ∃ W1, W1 = Lib.bytesWorld w 5 t := ⟨_, rfl⟩
  rw [← hW1] at hcv hB B1
  clear hW1
  obtain ⟨bs, hL⟩ : ∃ bs, bs = t.data.toList := ⟨_, rfl⟩
  have hLn : bs.length = t.size := by rw [hL]; simp
  rw [← hL] at hB hx ⊢
  clear hL hne
  have HX := Lib.hid hx
  have HB := Lib.hid hB
  clear hx hB
  have hmv : IntKind.u64.wrap (IntKind.u64.wrap 4294967296 - 1) = 4294967295 := by
    rw [IntKind.wrap_u64, IntKind.wrap_u64]; decide
  obtain ⟨N, hN⟩ : ∃ N, t.size = N := ⟨_, rfl⟩
  rw [hN] at hLn ht HB hcv
  have HN := Lib.hid hN
  clear hN
  go_enter Tryz.func173, Tryz.ntmps173
  go_wp2
  go_loop [12, 13, 101] (fun vu vn vi => ∃ (k acc : Nat) (a : Int), vu = .bool false ∧ vn = .int .u64 a ∧ vi = .int .i64 k ∧ k ≤ N ∧ Hid (a = (acc : Int) ∧ acc ≤ 4294967295 ∧ pu16 0 bs = pu16 acc (bs.drop k))) (fun _ _ vi => N - (intOf vi).toNat)
  case atStart => exact ⟨0, 0, 0, rfl, rfl, rfl, by omega, Lib.hid ⟨rfl, by omega, by simp⟩⟩
  case round =>
    obtain ⟨k, acc, a, rfl, rfl, rfl, hk, hh⟩ := hrel
    obtain ⟨ha, hacc, hdec⟩ := hh.out
    clear hh
    have a0 : 0 ≤ a := by omega
    have a1 : a ≤ 4294967295 := by omega
    by_cases hkn : k < N
    · have hc := HB.out k hkn
      have hlt : k < bs.length := by omega
      have hdrop : bs.drop k = bs[k] :: bs.drop (k + 1) := List.drop_eq_getElem_cons hlt
      have hget : bs.getD k 0 = bs[k] := by simp [List.getD, List.getElem?_eq_getElem hlt]
      have hs : (hv bs[k]).isSome = true := List.all_eq_true.1 HX.out _ (List.getElem_mem hlt)
      rw [hdrop, pu16] at hdec
      rw [hget] at hc
      generalize bs[k] = c at hc hdec hs
      have hc256 : c.toNat < 256 := c.toNat_lt
      obtain ⟨o1, o2⟩ := or32 c.toNat hc256
      obtain ⟨z, hz⟩ : ∃ z : Int, z = (c.toNat : Int) := ⟨_, rfl⟩
      obtain ⟨d, hd⟩ : ∃ d : Nat, d = (hv c).getD 0 := ⟨_, rfl⟩
      rw [← hz] at hc o1 o2
      rw [← hd] at hdec
      obtain ⟨A, hA⟩ : ∃ A : Nat, A = acc * 16 + d := ⟨_, rfl⟩
      rw [← hA] at hdec
      clear hdrop hget hlt
      rcases hv_cases hs with ⟨c1, c2, c3⟩ | ⟨c1, c2, c3⟩ | ⟨c1, c2, c3⟩
      · have hdz : (d : Int) = z - 48 := by rw [hd, c3, hz]; simp; omega
        have z1 : 48 ≤ z := by omega
        have z2 : z ≤ 57 := by omega
        clear o1 o2 hs c3 hd hc256
        have w1 : IntKind.u64.wrap (a * 16) = a * 16 := by rw [IntKind.wrap_u64]; omega
        have w2 : IntKind.u64.wrap (a * 16 + (z - 48)) = a * 16 + (z - 48) := by rw [IntKind.wrap_u64]; omega
        by_cases hov : 4294967295 < A
        · rw [if_pos hov] at hdec
          have iov : 4294967295 < a * 16 + (z - 48) := by omega
          have HD := Lib.hid hdec
          clear hdec ha hdz hz hA hov c1 c2 hacc
          go_wp2
          go_ret2
          exact ⟨by rw [HD.out]; rfl, B1.out⟩
        · rw [if_neg hov] at hdec
          have iov : a * 16 + (z - 48) ≤ 4294967295 := by omega
          have HD : Hid (a * 16 + (z - 48) = (A : Int) ∧ A ≤ 4294967295 ∧ pu16 0 bs = pu16 A (bs.drop (k + 1))) := Lib.hid ⟨by omega, by omega, hdec⟩
          clear hdec ha hdz hz hA hov c1 c2 hacc
          go_wp2
          refine ⟨⟨k + 1, A, a * 16 + (z - 48), rfl, (by first | rfl | (congr 1; omega)), (by first | rfl | (congr 1; omega)), by omega, HD⟩, by simp [intOf]; omega⟩
      · have hdz : (d : Int) = z - 87 := by rw [hd, c3, hz]; simp; omega
        have z1 : 97 ≤ z := by omega
        have z2 : z ≤ 102 := by omega
        have o3 := o1 ⟨c1, c2⟩
        clear o1 o2 hs c3 hd hc256
        have w1 : IntKind.u64.wrap (a * 16) = a * 16 := by rw [IntKind.wrap_u64]; omega
        have w2 : IntKind.u64.wrap (a * 16 + (z - 97 + 10)) = a * 16 + (z - 97 + 10) := by rw [IntKind.wrap_u64]; omega
        by_cases hov : 4294967295 < A
        · rw [if_pos hov] at hdec
          have iov : 4294967295 < a * 16 + (z - 97 + 10) := by omega
          have HD := Lib.hid hdec
          clear hdec ha hdz hz hA hov c1 c2 hacc
          go_wp2_with (go_at_call 194; refine (Tryz.internal_strconv_lower _ _).mono ?_; rintro e w' ⟨rfl, rfl⟩)
          go_ret2
          exact ⟨by rw [HD.out]; rfl, B1.out⟩
        · rw [if_neg hov] at hdec
          have iov : a * 16 + (z - 97 + 10) ≤ 4294967295 := by omega
          have HD : Hid (a * 16 + (z - 97 + 10) = (A : Int) ∧ A ≤ 4294967295 ∧ pu16 0 bs = pu16 A (bs.drop (k + 1))) := Lib.hid ⟨by omega, by omega, hdec⟩
          clear hdec ha hdz hz hA hov c1 c2 hacc
          go_wp2_with (go_at_call 194; refine (Tryz.internal_strconv_lower _ _).mono ?_; rintro e w' ⟨rfl, rfl⟩)
          refine ⟨⟨k + 1, A, a * 16 + (z - 97 + 10), rfl, (by first | rfl | (congr 1; omega)), (by first | rfl | (congr 1; omega)), by omega, HD⟩, by simp [intOf]; omega⟩
      · have hdz : (d : Int) = z - 55 := by rw [hd, c3, hz]; simp; omega
        have z1 : 65 ≤ z := by omega
        have z2 : z ≤ 70 := by omega
        have o3 := o2 ⟨c1, c2⟩
        clear o1 o2 hs c3 hd hc256
        have w1 : IntKind.u64.wrap (a * 16) = a * 16 := by rw [IntKind.wrap_u64]; omega
        have w2 : IntKind.u64.wrap (a * 16 + (z + 32 - 97 + 10)) = a * 16 + (z + 32 - 97 + 10) := by rw [IntKind.wrap_u64]; omega
        by_cases hov : 4294967295 < A
        · rw [if_pos hov] at hdec
          have iov : 4294967295 < a * 16 + (z + 32 - 97 + 10) := by omega
          have HD := Lib.hid hdec
          clear hdec ha hdz hz hA hov c1 c2 hacc
          go_wp2_with (go_at_call 194; refine (Tryz.internal_strconv_lower _ _).mono ?_; rintro e w' ⟨rfl, rfl⟩)
          go_ret2
          exact ⟨by rw [HD.out]; rfl, B1.out⟩
        · rw [if_neg hov] at hdec
          have iov : a * 16 + (z + 32 - 97 + 10) ≤ 4294967295 := by omega
          have HD : Hid (a * 16 + (z + 32 - 97 + 10) = (A : Int) ∧ A ≤ 4294967295 ∧ pu16 0 bs = pu16 A (bs.drop (k + 1))) := Lib.hid ⟨by omega, by omega, hdec⟩
          clear hdec ha hdz hz hA hov c1 c2 hacc
          go_wp2_with (go_at_call 194; refine (Tryz.internal_strconv_lower _ _).mono ?_; rintro e w' ⟨rfl, rfl⟩)
          refine ⟨⟨k + 1, A, a * 16 + (z + 32 - 97 + 10), rfl, (by first | rfl | (congr 1; omega)), (by first | rfl | (congr 1; omega)), by omega, HD⟩, by simp [intOf]; omega⟩
    · obtain rfl : k = N := by omega
      rw [List.drop_eq_nil_of_le (by omega), pu16] at hdec
      have HD : Hid (pu16 0 bs = some acc ∧ a = (acc : Int)) := Lib.hid ⟨hdec, ha⟩
      clear hdec ha hacc
      go_wp2
      go_ret2
      exact ⟨by rw [HD.out.1, HD.out.2]; rfl, B1.out⟩

end Go.Proofs.YtiamggjebaabkaaGreatDoor

namespace Go.Proofs.YtiamggjebaabkaaGreatDoor
open Go.RowKit
set_option linter.unusedVariables false

theorem figis_any (c : UInt8) (w : World) :
    Calls Tryz.prog 208 #[.int .u8 c.toNat] w fun e w' => e = .returned (.bool (isd c)) ∧ w = w' := by
  have hd : isd c = (decide (48 ≤ (c.toNat : Int)) && decide ((c.toNat : Int) ≤ 57)) := by
    unfold isd; rw [Bool.eq_iff_iff]; simp; omega
  rw [hd]; clear hd
  by_cases h1 : 48 ≤ (c.toNat : Int)
  · by_cases h2 : (c.toNat : Int) ≤ 57
    · go_enter Tryz.func208, Tryz.ntmps208
      go_wp2
      go_ret
      exact ⟨ret1_eq (bool_eq (by simp; omega)), rfl⟩
    · go_enter Tryz.func208, Tryz.ntmps208
      go_wp2
      go_ret
      exact ⟨ret1_eq (bool_eq (by simp; omega)), rfl⟩
  · go_enter Tryz.func208, Tryz.ntmps208
    go_wp2
    go_ret
    exact ⟨ret1_eq (bool_eq (by simp; omega)), rfl⟩
theorem figis_yes (c : UInt8) (w : World) (h : isd c = true) :
    Calls Tryz.prog 208 #[.int .u8 c.toNat] w fun e w' => e = .returned (.bool true) ∧ w = w' := h ▸ figis_any c w
theorem figis_no (c : UInt8) (w : World) (h : isd c = false) :
    Calls Tryz.prog 208 #[.int .u8 c.toNat] w fun e w' => e = .returned (.bool false) ∧ w = w' := h ▸ figis_any c w

theorem at_list (s : ByteArray) (k : Nat) (h : k < s.size) : s.data.toList[k]'(by simpa using h) = s[k] := rfl
theorem take_snoc (s : ByteArray) (k : Nat) (h : k < s.size) : s.data.toList.take (k + 1) = s.data.toList.take k ++ [s[k]] := by
  rw [List.take_succ_eq_append_getElem (by simpa using h)]; rfl

set_option maxHeartbeats 400000 in
theorem count_any (s : ByteArray) (m : Nat) (w : World) (hs : s.size ≤ maxLen) :
    Calls Tryz.prog 192 #[.string s, .int .i64 m] w fun e w' => e = .returned (.int .i64 (min (lead s.data.toList) m : Nat)) ∧ w = w' := by
  unfold maxLen at hs
  have hsz : s.data.toList.length = s.size := by simp
  have hle := lead_le s.data.toList
  have HSZ := Lib.hid hsz
  rw [hsz] at hle; clear hsz
  obtain ⟨n, hn⟩ : ∃ n : Nat, n = min s.size m := ⟨_, rfl⟩
  have hns : n ≤ s.size := by omega
  have hnm : n ≤ m := by omega
  have hmin : (min (s.size : Int) (m : Int)) = (n : Int) := by omega
  have HN := Lib.hid hn; clear hn
  go_enter Tryz.func192, Tryz.ntmps192
  go_wp2
  clear hmin
  go_loop [4, 6, 12] (fun _ _ i => ∃ k : Nat, k ≤ n ∧ k ≤ lead s.data.toList ∧ i = .int .i64 k) (fun _ _ i => n - (intOf i).toNat)
  case atStart => exact ⟨0, Nat.zero_le _, Nat.zero_le _, rfl⟩
  case round =>
    obtain ⟨k, hk, hkl, rfl⟩ := hrel
    by_cases hlt : k < n
    · have hks : k < s.size := by omega
      cases hd : isd s[k]
      · have e := lead_at (l := s.data.toList) (by rw [HSZ.out]; exact hks) hkl hd
        have E := Lib.hid e; clear e
        have HD := Lib.hid hd; clear hd
        go_wp2_with (go_at_call 208; refine (figis_no _ _ HD.out).mono ?_; rintro e w' ⟨rfl, rfl⟩)
        go_ret
        exact ⟨ret1_eq (int_eq (by rw [E.out]; omega)), rfl⟩
      · have hu := lead_up (l := s.data.toList) (by rw [HSZ.out]; exact hks) hkl hd
        have HD := Lib.hid hd; clear hd
        go_wp2_with (go_at_call 208; refine (figis_yes _ _ HD.out).mono ?_; rintro e w' ⟨rfl, rfl⟩)
        go_round
        case rel => exact ⟨k + 1, by omega, hu, by go_num⟩
        case measure => simp [intOf]; omega
    · go_wp2
      go_ret
      exact ⟨ret1_eq (int_eq (by have := HN.out; omega)), rfl⟩

/-! ### value -/
theorem dv_step {s : ByteArray} {k : Nat} (h : k < s.size) : dv (s.data.toList.take (k + 1)) = 10 * dv (s.data.toList.take k) + (s[k].toNat - 48) := by
  rw [take_snoc s k h, dv_snoc]

/-- The number of figures, up to a limit, and its error's number. -/
def vlN (l : List UInt8) (lim : Nat) : Nat := if lim < dv l then 0 else dv l
def vlE (l : List UInt8) (lim : Nat) : Int := if lim < dv l then 5 else 0
set_option maxHeartbeats 400000 in
theorem value_any (s : ByteArray) (lim : Nat) (w : World) (hs : s.size ≤ 100) (hd : ∀ b ∈ s.data.toList, isd b = true) (hl : 9 ≤ lim) (hl2 : lim ≤ 9223372036854775808) :
    Calls Tryz.prog 193 #[.string s, .int .u64 lim] w fun e w' =>
      e = .returned (.tuple #[.int .u64 (vlN s.data.toList lim : Nat), ev (vlE s.data.toList lim)]) ∧ w = w' := by
  have hsz : s.data.toList.length = s.size := by simp
  have HD := Lib.hid hd; have HSZ := Lib.hid hsz; clear hd hsz
  go_enter Tryz.func193, Tryz.ntmps193
  go_wp2
  go_loop [6, 7, 8, 11] (fun v _ _ i => ∃ k N : Nat, k ≤ s.size ∧ RowKit.Hid (N = dv (s.data.toList.take k)) ∧ N ≤ lim ∧ v = .int .u64 N ∧ i = .int .i64 k) (fun _ _ _ i => s.size - (intOf i).toNat)
  case atStart => exact ⟨0, 0, Nat.zero_le _, rfl, Nat.zero_le _, rfl, rfl⟩
  case round =>
    obtain ⟨k, N, hk, HN, hNl, rfl, rfl⟩ := hrel
    by_cases hlt : k < s.size
    · have hb := isd_bd (HD.out s[k] (by rw [← at_list s k hlt]; exact List.getElem_mem _))
      have hst := dv_step hlt
      rw [← HN.out] at hst
      have hle := dv_take_le s.data.toList (k + 1)
      by_cases hov : lim < 10 * N + (s[k].toNat - 48)
      · have hbig : lim < dv s.data.toList := by omega
        have HB := Lib.hid hbig
        clear hst hle hbig
        have ht : ((N : Int) > ((lim : Int) - ((s[k].toNat : Int) - 48)) / 10) := by omega
        clear hov
        go_wp2
        go_ret2
        exact ⟨ret2_eq (int_eq (by unfold vlN; rw [if_pos HB.out]; rfl)) (by unfold vlE; rw [if_pos HB.out]; rfl), rfl⟩
      · have HST := Lib.hid hst
        clear hst hle
        have ht : ¬ ((N : Int) > ((lim : Int) - ((s[k].toNat : Int) - 48)) / 10) := by omega
        go_wp2
        go_round
        case rel => exact ⟨k + 1, 10 * N + (s[k].toNat - 48), by omega, HST.out.symm, by omega, by congr 1; omega, by go_num⟩
        case measure => simp [intOf]; omega
    · have e : k = s.size := by omega
      have HE : RowKit.Hid (dv (s.data.toList.take k) = dv s.data.toList) := by rw [List.take_of_length_le (by rw [HSZ.out]; omega)]; exact rfl
      clear e
      go_wp2
      go_ret2
      have h1 := HN.out
      rw [HE.out] at h1
      exact ⟨ret2_eq (int_eq (by unfold vlN; rw [if_neg (by omega), h1])) (by unfold vlE; rw [if_neg (by omega)]; rfl), rfl⟩

/-! ### take, whole -/
/-- Are the bounds out of order? -/
def tkR (a b : Int) : Bool := decide (a < 1) || decide (b < a) || decide (20 < b)
def tkk (l : List UInt8) (b : Int) : Nat := min (lead l) b.toNat
def tkE (l : List UInt8) (a b : Int) (lim : Nat) : Int := if tkR a b then 1 else if (tkk l b : Int) < a then 2 else vlE (l.take (tkk l b)) lim
def tkN (l : List UInt8) (a b : Int) (lim : Nat) : Nat := if tkE l a b lim = 0 then dv (l.take (tkk l b)) else 0
def tkK (l : List UInt8) (a b : Int) (lim : Nat) : Nat := if tkE l a b lim = 0 then tkk l b else 0
theorem tk_no {l : List UInt8} {a b : Int} {lim : Nat} {k : Int} (h : tkE l a b lim = k) (hk : k ≠ 0) : tkN l a b lim = 0 ∧ tkK l a b lim = 0 := by
  unfold tkN tkK; rw [if_neg (by rw [h]; exact hk), if_neg (by rw [h]; exact hk)]; exact ⟨rfl, rfl⟩
theorem vl_E (l : List UInt8) (lim : Nat) : (vlE l lim = 5 ∧ vlN l lim = 0 ∧ lim < dv l) ∨ (vlE l lim = 0 ∧ vlN l lim = dv l ∧ dv l ≤ lim) := by
  unfold vlE vlN; by_cases h : lim < dv l
  · rw [if_pos h, if_pos h]; exact .inl ⟨rfl, rfl, h⟩
  · rw [if_neg h, if_neg h]; exact .inr ⟨rfl, rfl, by omega⟩

set_option maxHeartbeats 800000 in
theorem take_any (s : ByteArray) (a b : Int) (lim : Nat) (w : World) (hs : s.size ≤ maxLen) (ha : fits a) (hb : fits b) (hl : 9 ≤ lim) (hl2 : lim ≤ 9223372036854775808) :
    Calls Tryz.prog 172 #[.string s, .int .i64 a, .int .i64 b, .int .u64 lim] w fun e w' =>
      e = .returned (.tuple #[.int .u64 (tkN s.data.toList a b lim : Nat), .int .i64 (tkK s.data.toList a b lim : Nat), ev (tkE s.data.toList a b lim)]) ∧ w = w' := by
  by_cases hr : tkR a b = true
  · have e : tkE s.data.toList a b lim = 1 := by unfold tkE; rw [if_pos hr]
    obtain ⟨e1, e2⟩ := tk_no e (by decide)
    rw [e, e1, e2]; clear e e1 e2
    have hr' : a < 1 ∨ (¬ a < 1 ∧ b < a) ∨ (¬ a < 1 ∧ ¬ b < a ∧ 20 < b) := by unfold tkR at hr; simp at hr; omega
    clear hr
    rcases hr' with h1 | ⟨h1, h2⟩ | ⟨h1, h2, h3⟩
    all_goals
      go_enter Tryz.func172, Tryz.ntmps172
      go_wp2
      go_ret3
      exact ⟨rfl, rfl⟩
  · have hr' : ¬ a < 1 ∧ ¬ b < a ∧ ¬ 20 < b := by unfold tkR at hr; simp at hr; omega
    have hE : tkE s.data.toList a b lim = if (tkk s.data.toList b : Int) < a then 2 else vlE (s.data.toList.take (tkk s.data.toList b)) lim := by unfold tkE; rw [if_neg hr]
    clear hr
    obtain ⟨h1, h2, h3⟩ := hr'
    obtain ⟨m, rfl⟩ := Int.eq_ofNat_of_zero_le (show 0 ≤ b by omega)
    have hk : tkk s.data.toList m = min (lead s.data.toList) m := by unfold tkk; rfl
    obtain ⟨n, hn⟩ : ∃ n : Nat, n = tkk s.data.toList m := ⟨_, rfl⟩
    rw [← hn] at hE hk
    have hle := lead_le s.data.toList
    have hsz : s.data.toList.length = s.size := by simp
    have hns : n ≤ s.size := by omega
    have hn20 : n ≤ 20 := by omega
    have HC := Lib.hid (count_any s m w hs)
    rw [← hk] at HC
    have HE := Lib.hid hE; have HN := Lib.hid hn
    clear hE hn hk hle hsz hs
    by_cases h4 : (n : Int) < a
    · have e : tkE s.data.toList a m lim = 2 := by rw [HE.out, if_pos h4]
      obtain ⟨e1, e2⟩ := tk_no e (by decide)
      rw [e, e1, e2]; clear e e1 e2
      go_enter Tryz.func172, Tryz.ntmps172
      go_wp2_with (go_at_call 192; refine HC.out.mono ?_; rintro e w' ⟨rfl, rfl⟩)
      go_ret3
      exact ⟨rfl, rfl⟩
    · have hv := value_any (s.extract 0 n) lim w (by rw [ByteArray.size_extract]; omega) (by rw [Lib.extract_upto]; exact lead_mem (by have := HN.out; unfold tkk at this; omega)) hl hl2
      rw [show (s.extract 0 n).data.toList = s.data.toList.take n by rw [Lib.extract_upto]] at hv
      rw [if_neg h4] at HE
      rcases vl_E (s.data.toList.take n) lim with ⟨v1, v2, v3⟩ | ⟨v1, v2, v3⟩
      · rw [v1, v2] at hv; rw [v1] at HE
        obtain ⟨e1, e2⟩ := tk_no HE.out (by decide)
        rw [HE.out, e1, e2]
        have HV := Lib.hid hv
        clear hv e1 e2 v1 v2 v3 HE hl hl2 ha hb
        have q0 := fun op t x k => guard_ev op t w x k
        have q2 := fun k => neq_ev w k
        go_enter Tryz.func172, Tryz.ntmps172
        go_wp2_with (first
          | (go_at_call 192; refine HC.out.mono ?_; rintro e w' ⟨rfl, rfl⟩)
          | (go_at_call 193; refine HV.out.mono ?_; rintro e w' ⟨rfl, rfl⟩))
        go_ret3
        exact ⟨rfl, rfl⟩
      · rw [v1, v2] at hv; rw [v1] at HE
        have e1 : tkN s.data.toList a m lim = dv (s.data.toList.take n) := by unfold tkN; rw [if_pos HE.out, ← HN.out]
        have e2 : tkK s.data.toList a m lim = n := by unfold tkK; rw [if_pos HE.out, ← HN.out]
        rw [HE.out, e1, e2]
        have HV := Lib.hid hv
        obtain ⟨d, hd⟩ : ∃ d : Nat, d = dv (s.data.toList.take n) := ⟨_, rfl⟩
        rw [← hd] at HV v3 ⊢
        clear hv e1 e2 v1 v2 v3 HE hd hl hl2 ha hb
        have q0 := fun op t x k => guard_ev op t w x k
        have q2 := fun k => neq_ev w k
        go_enter Tryz.func172, Tryz.ntmps172
        go_wp2_with (first
          | (go_at_call 192; refine HC.out.mono ?_; rintro e w' ⟨rfl, rfl⟩)
          | (go_at_call 193; refine HV.out.mono ?_; rintro e w' ⟨rfl, rfl⟩))
        go_ret3
        exact ⟨rfl, rfl⟩

/-- The whole text's number; its error's number. -/
def whE (l : List UInt8) (a b : Int) (lim : Nat) : Int := if tkE l a b lim = 0 then (if tkK l a b lim < l.length then 2 else 0) else tkE l a b lim
def whN (l : List UInt8) (a b : Int) (lim : Nat) : Nat := if whE l a b lim = 0 then tkN l a b lim else 0
theorem tkN_le (l : List UInt8) (a b : Int) (lim : Nat) : tkN l a b lim ≤ lim := by
  unfold tkN; split
  · rename_i h
    unfold tkE at h
    split at h
    · cases h
    · split at h
      · cases h
      · rcases vl_E (l.take (tkk l b)) lim with ⟨h', _⟩ | ⟨_, _, h'⟩
        · rw [h'] at h; cases h
        · exact h'
  · omega
theorem tkK_le (l : List UInt8) (a b : Int) (lim : Nat) : tkK l a b lim ≤ l.length := by
  unfold tkK tkk; split
  · have := lead_le l; omega
  · omega
end Go.Proofs.YtiamggjebaabkaaGreatDoor

namespace Go.Proofs.YtiamggjebaabkaaGreatDoor
open Go.RowKit
set_option linter.unusedVariables false

/-- The greatest number, and one more. -/
def mx : Nat := 9223372036854775807
theorem mx_is : ((mx : Nat) : Int) = 9223372036854775807 := rfl
theorem ftake_any (s : ByteArray) (a b : Int) (w : World) (hs : s.size ≤ maxLen) (ha : fits a) (hb : fits b) :
    Calls Tryz.prog 142 #[.string s, .int .i64 a, .int .i64 b] w fun e w' =>
      e = .returned (.tuple #[.int .i64 (tkN s.data.toList a b mx : Nat), .int .i64 (tkK s.data.toList a b mx : Nat), ev (tkE s.data.toList a b mx)]) ∧ w = w' := by
  have ht := take_any s a b mx w hs ha hb (by decide) (by decide)
  rw [mx_is] at ht
  have hN := tkN_le s.data.toList a b mx
  generalize tkN s.data.toList a b mx = N at *
  generalize tkK s.data.toList a b mx = K at *
  generalize tkE s.data.toList a b mx = E at *
  have HT := Lib.hid ht
  have hN' : (N : Int) ≤ 9223372036854775807 := by have := mx_is; omega
  clear ht hN ha hb
  go_enter Tryz.func142, Tryz.ntmps142
  go_wp2_with (go_at_call 172; refine HT.out.mono ?_; rintro e w' ⟨rfl, rfl⟩)
  go_ret3
  exact ⟨rfl, rfl⟩

/-! ### the library's calls -/
theorem cutp_any (s : ByteArray) (c : UInt8) (w : World) :
    Calls Tryz.prog 88 #[.string s, .string ⟨#[c]⟩] w fun e w' => e = .returned (.tuple #[.string ⟨(Lib.trimPrefix s.data.toList [c]).toArray⟩, .bool (Lib.hasPrefix s.data.toList [c])]) ∧ w = w' :=
  (Tryz.strings_CutPrefix s ⟨#[c]⟩ w).mono fun e w' ⟨he, hw⟩ => ⟨he, hw.symm⟩
/-! ### Signed -/
/-! ### Fraction -/
end Go.Proofs.YtiamggjebaabkaaGreatDoor
