/- Merged: ListC, FigA. -/
import Derived.Test.YtdonicaiimeleaaGreatDoorGListParses2
import Derived.Test.YtdonicaiimeleaaGreatDoorGListParses1
import Derived.LoopTactic
import Derived.Lib.Walk
namespace Go.Proofs.YtdonicaiimeleaaGreatDoor
open Go.RowKit Go.WideShapes Go.ChangeShapes
set_option linter.unusedVariables false
set_option linter.unusedSimpArgs false

theorem u32w (z : Int) : IntKind.u32.wrap z = z % 4294967296 := by simp [IntKind.wrap, IntKind.signed, IntKind.bits]
theorem hx_two (n x : Nat) (h : n < 4294967296) (hx : x < 16) : ∃ a b : Nat, IntKind.u32.wrap ((n : Int) * 16) = (a : Int) ∧ IntKind.u32.wrap ((a : Int) + (x : Int)) = (b : Int) ∧ b = (n * 16 + x) % 4294967296 := by
  refine ⟨(n * 16) % 4294967296, (n * 16 + x) % 4294967296, ?_, ?_, rfl⟩
  · rw [u32w]; omega
  · rw [u32w]; omega
theorem hxA_no {l : List UInt8} {k : Nat} {b : UInt8} (h : l[k]? = some b) (hb : hv b = none) : hxA l = false := by
  unfold hxA
  rw [List.all_eq_false]
  exact ⟨b, List.mem_of_getElem? h, by rw [hb]; simp⟩
theorem hxA_all {l : List UInt8} (h : ∀ (k : Nat) (b : UInt8), l[k]? = some b → (hv b).isSome = true) : hxA l = true := by
  unfold hxA
  rw [List.all_eq_true]
  intro b hb
  obtain ⟨k, hk⟩ := List.mem_iff_getElem?.1 hb
  exact h k b hk
theorem hx_no {l : List UInt8} (h : hxA l = false) : hxN l = 0 ∧ hxB l = false := by
  unfold hxN hxB
  rw [h]
  simp
theorem hx_yes {l : List UInt8} (h : hxA l = true) : hxN l = hxS l l.length ∧ hxB l = (decide (0 < l.length) && decide (l.length ≤ 8)) := by
  unfold hxN hxB
  rw [h]
  simp
theorem hxS_next {l : List UInt8} {k : Nat} {b : UInt8} {x : Nat} (h : l[k]? = some b) (hb : hv b = some x) : hxS l (k + 1) = (hxS l k * 16 + x) % 4294967296 := by
  rw [hxS, h]; simp [hb]

set_option maxRecDepth 100000 in
set_option maxHeartbeats 4000000 in
theorem hex11_any (s : ByteArray) (w : World) (hs : s.size ≤ 100000) :
    Calls Tryz.prog 37 #[.string s] w fun x w' => x = .returned (.tuple #[.int .u32 (hxN s.data.toList : Nat), .bool (hxB s.data.toList)]) ∧ w = w' := by
  obtain ⟨l, hl⟩ : ∃ l, l = s.data.toList := ⟨_, rfl⟩
  have hsz : l.length = s.size := by rw [hl]; simp
  rw [← hl]
  have HLs := Lib.hid hl
  have HSZ := Lib.hid hsz
  obtain ⟨N, hN⟩ : ∃ N, N = s.size := ⟨_, rfl⟩
  have HN := Lib.hid hN
  clear hl hsz
  go_enter Tryz.func37, Tryz.ntmps37
  go_wp2
  go_loopg [4, 5] N (fun gg s4 s5 wr => ∃ (k n : Nat), k ≤ N ∧ N - k ≤ gg ∧ s4 = .int .u32 (n : Int) ∧ s5 = .int .i64 k ∧ n < 4294967296 ∧ wr = w ∧ Hid (n = hxS l k) ∧ Hid (∀ (j : Nat) (b : UInt8), j < k → l[j]? = some b → (hv b).isSome = true))
  case atStart => exact ⟨0, 0, Nat.zero_le _, by omega, rfl, rfl, by omega, rfl, Lib.hid rfl, Lib.hid fun j b hj => absurd hj (Nat.not_lt_zero _)⟩
  case round =>
    obtain ⟨k, n, hk, hg, rfl, rfl, hn, rfl, HH, F⟩ := hrel
    have zs : (s.size : Int) = (N : Int) := by have := HN.out; omega
    by_cases hlt : k < N
    · have hks : k < s.size := by have := HN.out; omega
      have hltz : (k : Int) < (s.size : Int) := by omega
      have hb := byte_at hks
      rw [← HLs.out] at hb
      have Hb := Lib.hid hb
      have HK := Lib.hid hlt
      have hy256 : s[k].toNat < 256 := UInt8.toNat_lt _
      have HV : Hid (hv s[k] = if 48 ≤ s[k].toNat ∧ s[k].toNat ≤ 57 then some (s[k].toNat - 48) else if 97 ≤ s[k].toNat ∧ s[k].toNat ≤ 102 then some (s[k].toNat - 87) else if 65 ≤ s[k].toNat ∧ s[k].toNat ≤ 70 then some (s[k].toNat - 55) else none) := Lib.hid rfl
      generalize hy : s[k].toNat = y at *
      clear hb hN
      rcases (by omega : (48 ≤ y ∧ y ≤ 57) ∨ (97 ≤ y ∧ y ≤ 102) ∨ (65 ≤ y ∧ y ≤ 70) ∨ y < 48 ∨ (57 < y ∧ y < 65) ∨ (70 < y ∧ y < 97) ∨ 102 < y) with ⟨a1, a2⟩ | ⟨a1, a2⟩ | ⟨a1, a2⟩ | a1 | ⟨a1, a2⟩ | ⟨a1, a2⟩ | a1
      · obtain ⟨x, rfl⟩ : ∃ x, y = x + 48 := ⟨y - 48, by omega⟩
        have hx : x < 16 := by omega
        obtain ⟨p, q, e1, e2, e3⟩ := hx_two n x hn hx
        have e4 : ((p : Int) + (x : Int)) % 4294967296 = (q : Int) := by rw [← u32w]; exact e2
        have hvx : hv s[k] = some x := by rw [HV.out, if_pos ⟨a1, a2⟩]; simp
        have E : Hid (q = hxS l (k + 1)) := Lib.hid (by rw [hxS_next Hb.out hvx, ← HH.out]; exact e3)
        have S : Hid ((hv s[k]).isSome = true) := Lib.hid (by rw [hvx]; rfl)
        have hq : q < 4294967296 := by rw [e3]; exact Nat.mod_lt _ (by omega)
        have HQ := Lib.hid hq
        have t0 : (x : Int) + 48 ≥ 48 := by omega
        have t1 : (x : Int) + 48 ≤ 57 := by omega
        have c0 : (x : Int) + 48 - 48 = (x : Int) := by omega
        clear hvx
        clear e3 hq a1 a2 hx
        go_wp2
        go_roundg (N - (k + 1))
        case measure => omega
        case rel =>
          refine ⟨k + 1, q, by omega, by omega, rfl, by go_num, HQ.out, rfl, E, Lib.hid fun j b hj hjb => ?_⟩
          by_cases e : j = k
          · subst e
            have := Hb.out.symm.trans hjb
            injection this with this
            rw [← this]; exact S.out
          · exact F.out j b (by omega) hjb
      · obtain ⟨x, rfl⟩ : ∃ x, y = x + 87 := ⟨y - 87, by omega⟩
        have hx : x < 16 := by omega
        obtain ⟨p, q, e1, e2, e3⟩ := hx_two n x hn hx
        have e4 : ((p : Int) + (x : Int)) % 4294967296 = (q : Int) := by rw [← u32w]; exact e2
        have hvx : hv s[k] = some x := by rw [HV.out, if_neg (by omega), if_pos ⟨a1, a2⟩]; simp
        have E : Hid (q = hxS l (k + 1)) := Lib.hid (by rw [hxS_next Hb.out hvx, ← HH.out]; exact e3)
        have S : Hid ((hv s[k]).isSome = true) := Lib.hid (by rw [hvx]; rfl)
        have hq : q < 4294967296 := by rw [e3]; exact Nat.mod_lt _ (by omega)
        have HQ := Lib.hid hq
        have t0 : (x : Int) + 87 ≥ 48 := by omega
        have t1 : ¬ (x : Int) + 87 ≤ 57 := by omega
        have t2 : (x : Int) + 87 ≥ 97 := by omega
        have t3 : (x : Int) + 87 ≤ 102 := by omega
        have c0 : (x : Int) + 87 - 97 + 10 = (x : Int) := by omega
        clear hvx
        clear e3 hq a1 a2 hx
        go_wp2
        go_roundg (N - (k + 1))
        case measure => omega
        case rel =>
          refine ⟨k + 1, q, by omega, by omega, rfl, by go_num, HQ.out, rfl, E, Lib.hid fun j b hj hjb => ?_⟩
          by_cases e : j = k
          · subst e
            have := Hb.out.symm.trans hjb
            injection this with this
            rw [← this]; exact S.out
          · exact F.out j b (by omega) hjb
      · obtain ⟨x, rfl⟩ : ∃ x, y = x + 55 := ⟨y - 55, by omega⟩
        have hx : x < 16 := by omega
        obtain ⟨p, q, e1, e2, e3⟩ := hx_two n x hn hx
        have e4 : ((p : Int) + (x : Int)) % 4294967296 = (q : Int) := by rw [← u32w]; exact e2
        have hvx : hv s[k] = some x := by rw [HV.out, if_neg (by omega), if_neg (by omega), if_pos ⟨a1, a2⟩]; simp
        have E : Hid (q = hxS l (k + 1)) := Lib.hid (by rw [hxS_next Hb.out hvx, ← HH.out]; exact e3)
        have S : Hid ((hv s[k]).isSome = true) := Lib.hid (by rw [hvx]; rfl)
        have hq : q < 4294967296 := by rw [e3]; exact Nat.mod_lt _ (by omega)
        have HQ := Lib.hid hq
        have t0 : (x : Int) + 55 ≥ 48 := by omega
        have t1 : ¬ (x : Int) + 55 ≤ 57 := by omega
        have t2 : ¬ (x : Int) + 55 ≥ 97 := by omega
        have t3 : (x : Int) + 55 ≥ 65 := by omega
        have t4 : (x : Int) + 55 ≤ 70 := by omega
        have c0 : (x : Int) + 55 - 65 + 10 = (x : Int) := by omega
        clear hvx
        clear e3 hq a1 a2 hx
        go_wp2
        go_roundg (N - (k + 1))
        case measure => omega
        case rel =>
          refine ⟨k + 1, q, by omega, by omega, rfl, by go_num, HQ.out, rfl, E, Lib.hid fun j b hj hjb => ?_⟩
          by_cases e : j = k
          · subst e
            have := Hb.out.symm.trans hjb
            injection this with this
            rw [← this]; exact S.out
          · exact F.out j b (by omega) hjb
      · have Z := hx_no (hxA_no Hb.out (by rw [HV.out, if_neg (by omega), if_neg (by omega), if_neg (by omega)]))
        have ZH := Lib.hid Z
        have t0 : ¬ (y : Int) ≥ 48 := by omega
        have t1 : ¬ (y : Int) ≥ 97 := by omega
        have t2 : ¬ (y : Int) ≥ 65 := by omega
        clear Z a1
        go_wp2
        go_ret2
        exact ⟨ret2_eq (int_eq (by rw [ZH.out.1]; rfl)) (bool_eq ZH.out.2.symm), rfl⟩
      · have Z := hx_no (hxA_no Hb.out (by rw [HV.out, if_neg (by omega), if_neg (by omega), if_neg (by omega)]))
        have ZH := Lib.hid Z
        have t0 : (y : Int) ≥ 48 := by omega
        have t1 : ¬ (y : Int) ≤ 57 := by omega
        have t2 : ¬ (y : Int) ≥ 97 := by omega
        have t3 : ¬ (y : Int) ≥ 65 := by omega
        clear Z a1 a2
        go_wp2
        go_ret2
        exact ⟨ret2_eq (int_eq (by rw [ZH.out.1]; rfl)) (bool_eq ZH.out.2.symm), rfl⟩
      · have Z := hx_no (hxA_no Hb.out (by rw [HV.out, if_neg (by omega), if_neg (by omega), if_neg (by omega)]))
        have ZH := Lib.hid Z
        have t0 : (y : Int) ≥ 48 := by omega
        have t1 : ¬ (y : Int) ≤ 57 := by omega
        have t2 : ¬ (y : Int) ≥ 97 := by omega
        have t3 : (y : Int) ≥ 65 := by omega
        have t4 : ¬ (y : Int) ≤ 70 := by omega
        clear Z a1 a2
        go_wp2
        go_ret2
        exact ⟨ret2_eq (int_eq (by rw [ZH.out.1]; rfl)) (bool_eq ZH.out.2.symm), rfl⟩
      · have Z := hx_no (hxA_no Hb.out (by rw [HV.out, if_neg (by omega), if_neg (by omega), if_neg (by omega)]))
        have ZH := Lib.hid Z
        have t0 : (y : Int) ≥ 48 := by omega
        have t1 : ¬ (y : Int) ≤ 57 := by omega
        have t2 : (y : Int) ≥ 97 := by omega
        have t3 : ¬ (y : Int) ≤ 102 := by omega
        have t4 : (y : Int) ≥ 65 := by omega
        have t5 : ¬ (y : Int) ≤ 70 := by omega
        clear Z a1
        go_wp2
        go_ret2
        exact ⟨ret2_eq (int_eq (by rw [ZH.out.1]; rfl)) (bool_eq ZH.out.2.symm), rfl⟩
    · have hltz : ¬ (k : Int) < (s.size : Int) := by omega
      obtain rfl : N = k := by omega
      have hA : hxA l = true := hxA_all fun j b hjb => F.out j b (by have := (List.getElem?_eq_some_iff.1 hjb).1; rw [HSZ.out, ← HN.out] at this; exact this) hjb
      obtain ⟨y1, y2⟩ := hx_yes hA
      rw [HSZ.out, ← HN.out, ← HH.out] at y1
      rw [HSZ.out, ← HN.out] at y2
      have Y1 := Lib.hid y1; have Y2 := Lib.hid y2
      clear y1 y2 hA hN
      by_cases h0 : 0 < N
      · have z0 : (N : Int) > 0 := by omega
        by_cases h8 : N ≤ 8
        · have z8 : (N : Int) ≤ 8 := by omega
          go_wp2
          go_ret2
          exact ⟨ret2_eq (int_eq (by rw [Y1.out])) (bool_eq (by rw [Y2.out, decide_eq_true h0, decide_eq_true h8]; rfl)), rfl⟩
        · have z8 : ¬ (N : Int) ≤ 8 := by omega
          go_wp2
          go_ret2
          exact ⟨ret2_eq (int_eq (by rw [Y1.out])) (bool_eq (by rw [Y2.out, decide_eq_true h0, decide_eq_false h8]; rfl)), rfl⟩
      · have z0 : ¬ (N : Int) > 0 := by omega
        go_wp2
        go_ret2
        exact ⟨ret2_eq (int_eq (by rw [Y1.out])) (bool_eq (by rw [Y2.out, decide_eq_false h0]; rfl)), rfl⟩

end Go.Proofs.YtdonicaiimeleaaGreatDoor

namespace Go.Proofs.YtdonicaiimeleaaGreatDoor
open Go.RowKit
set_option linter.unusedVariables false

theorem figis_any (c : UInt8) (w : World) :
    Calls Tryz.prog 180 #[.int .u8 c.toNat] w fun e w' => e = .returned (.bool (isd c)) ∧ w = w' := by
  have hd : isd c = (decide (48 ≤ (c.toNat : Int)) && decide ((c.toNat : Int) ≤ 57)) := by
    unfold isd; rw [Bool.eq_iff_iff]; simp; omega
  rw [hd]; clear hd
  by_cases h1 : 48 ≤ (c.toNat : Int)
  · by_cases h2 : (c.toNat : Int) ≤ 57
    · go_enter Tryz.func180, Tryz.ntmps180
      go_wp2
      go_ret
      exact ⟨ret1_eq (bool_eq (by simp; omega)), rfl⟩
    · go_enter Tryz.func180, Tryz.ntmps180
      go_wp2
      go_ret
      exact ⟨ret1_eq (bool_eq (by simp; omega)), rfl⟩
  · go_enter Tryz.func180, Tryz.ntmps180
    go_wp2
    go_ret
    exact ⟨ret1_eq (bool_eq (by simp; omega)), rfl⟩
theorem figis_yes (c : UInt8) (w : World) (h : isd c = true) :
    Calls Tryz.prog 180 #[.int .u8 c.toNat] w fun e w' => e = .returned (.bool true) ∧ w = w' := h ▸ figis_any c w
theorem figis_no (c : UInt8) (w : World) (h : isd c = false) :
    Calls Tryz.prog 180 #[.int .u8 c.toNat] w fun e w' => e = .returned (.bool false) ∧ w = w' := h ▸ figis_any c w

theorem at_list (s : ByteArray) (k : Nat) (h : k < s.size) : s.data.toList[k]'(by simpa using h) = s[k] := rfl
theorem take_snoc (s : ByteArray) (k : Nat) (h : k < s.size) : s.data.toList.take (k + 1) = s.data.toList.take k ++ [s[k]] := by
  rw [List.take_succ_eq_append_getElem (by simpa using h)]; rfl

set_option maxHeartbeats 400000 in
theorem count_any (s : ByteArray) (m : Nat) (w : World) (hs : s.size ≤ maxLen) :
    Calls Tryz.prog 150 #[.string s, .int .i64 m] w fun e w' => e = .returned (.int .i64 (min (lead s.data.toList) m : Nat)) ∧ w = w' := by
  unfold maxLen at hs
  have hsz : s.data.toList.length = s.size := by simp
  have hle := lead_le s.data.toList
  have HSZ := Lib.hid hsz
  rw [hsz] at hle; clear hsz
  obtain ⟨n, hn⟩ : ∃ n : Nat, n = min s.size m := ⟨_, rfl⟩
  have hns : n ≤ s.size := by omega
  have hnm : n ≤ m := by omega
  have hmin : (min (s.size : Int) (m : Int)) = (n : Int) := by omega
  have HN := Lib.hid hn; clear hn
  go_enter Tryz.func150, Tryz.ntmps150
  go_wp2
  clear hmin
  go_loop [4, 6, 12] (fun _ _ i => ∃ k : Nat, k ≤ n ∧ k ≤ lead s.data.toList ∧ i = .int .i64 k) (fun _ _ i => n - (intOf i).toNat)
  case atStart => exact ⟨0, Nat.zero_le _, Nat.zero_le _, rfl⟩
  case round =>
    obtain ⟨k, hk, hkl, rfl⟩ := hrel
    by_cases hlt : k < n
    · have hks : k < s.size := by omega
      cases hd : isd s[k]
      · have e := lead_at (l := s.data.toList) (by rw [HSZ.out]; exact hks) hkl hd
        have E := Lib.hid e; clear e
        have HD := Lib.hid hd; clear hd
        go_wp2_with (go_at_call 180; refine (figis_no _ _ HD.out).mono ?_; rintro e w' ⟨rfl, rfl⟩)
        go_ret
        exact ⟨ret1_eq (int_eq (by rw [E.out]; omega)), rfl⟩
      · have hu := lead_up (l := s.data.toList) (by rw [HSZ.out]; exact hks) hkl hd
        have HD := Lib.hid hd; clear hd
        go_wp2_with (go_at_call 180; refine (figis_yes _ _ HD.out).mono ?_; rintro e w' ⟨rfl, rfl⟩)
        go_round
        case rel => exact ⟨k + 1, by omega, hu, by go_num⟩
        case measure => simp [intOf]; omega
    · go_wp2
      go_ret
      exact ⟨ret1_eq (int_eq (by have := HN.out; omega)), rfl⟩

/-! ### value -/
theorem dv_step {s : ByteArray} {k : Nat} (h : k < s.size) : dv (s.data.toList.take (k + 1)) = 10 * dv (s.data.toList.take k) + (s[k].toNat - 48) := by
  rw [take_snoc s k h, dv_snoc]

/-- The number of figures, up to a limit, and its error's number. -/
def vlN (l : List UInt8) (lim : Nat) : Nat := if lim < dv l then 0 else dv l
def vlE (l : List UInt8) (lim : Nat) : Int := if lim < dv l then 5 else 0
set_option maxHeartbeats 400000 in
theorem value_any (s : ByteArray) (lim : Nat) (w : World) (hs : s.size ≤ 100) (hd : ∀ b ∈ s.data.toList, isd b = true) (hl : 9 ≤ lim) (hl2 : lim ≤ 9223372036854775808) :
    Calls Tryz.prog 151 #[.string s, .int .u64 lim] w fun e w' =>
      e = .returned (.tuple #[.int .u64 (vlN s.data.toList lim : Nat), ev (vlE s.data.toList lim)]) ∧ w = w' := by
  have hsz : s.data.toList.length = s.size := by simp
  have HD := Lib.hid hd; have HSZ := Lib.hid hsz; clear hd hsz
  go_enter Tryz.func151, Tryz.ntmps151
  go_wp2
  go_loop [6, 7, 8, 11] (fun v _ _ i => ∃ k N : Nat, k ≤ s.size ∧ RowKit.Hid (N = dv (s.data.toList.take k)) ∧ N ≤ lim ∧ v = .int .u64 N ∧ i = .int .i64 k) (fun _ _ _ i => s.size - (intOf i).toNat)
  case atStart => exact ⟨0, 0, Nat.zero_le _, rfl, Nat.zero_le _, rfl, rfl⟩
  case round =>
    obtain ⟨k, N, hk, HN, hNl, rfl, rfl⟩ := hrel
    by_cases hlt : k < s.size
    · have hb := isd_bd (HD.out s[k] (by rw [← at_list s k hlt]; exact List.getElem_mem _))
      have hst := dv_step hlt
      rw [← HN.out] at hst
      have hle := dv_take_le s.data.toList (k + 1)
      by_cases hov : lim < 10 * N + (s[k].toNat - 48)
      · have hbig : lim < dv s.data.toList := by omega
        have HB := Lib.hid hbig
        clear hst hle hbig
        have ht : ((N : Int) > ((lim : Int) - ((s[k].toNat : Int) - 48)) / 10) := by omega
        clear hov
        go_wp2
        go_ret2
        exact ⟨ret2_eq (int_eq (by unfold vlN; rw [if_pos HB.out]; rfl)) (by unfold vlE; rw [if_pos HB.out]; rfl), rfl⟩
      · have HST := Lib.hid hst
        clear hst hle
        have ht : ¬ ((N : Int) > ((lim : Int) - ((s[k].toNat : Int) - 48)) / 10) := by omega
        go_wp2
        go_round
        case rel => exact ⟨k + 1, 10 * N + (s[k].toNat - 48), by omega, HST.out.symm, by omega, by congr 1; omega, by go_num⟩
        case measure => simp [intOf]; omega
    · have e : k = s.size := by omega
      have HE : RowKit.Hid (dv (s.data.toList.take k) = dv s.data.toList) := by rw [List.take_of_length_le (by rw [HSZ.out]; omega)]; exact rfl
      clear e
      go_wp2
      go_ret2
      have h1 := HN.out
      rw [HE.out] at h1
      exact ⟨ret2_eq (int_eq (by unfold vlN; rw [if_neg (by omega), h1])) (by unfold vlE; rw [if_neg (by omega)]; rfl), rfl⟩

/-! ### take, whole -/
/-- Are the bounds out of order? -/
def tkR (a b : Int) : Bool := decide (a < 1) || decide (b < a) || decide (20 < b)
def tkk (l : List UInt8) (b : Int) : Nat := min (lead l) b.toNat
def tkE (l : List UInt8) (a b : Int) (lim : Nat) : Int := if tkR a b then 1 else if (tkk l b : Int) < a then 2 else vlE (l.take (tkk l b)) lim
def tkN (l : List UInt8) (a b : Int) (lim : Nat) : Nat := if tkE l a b lim = 0 then dv (l.take (tkk l b)) else 0
def tkK (l : List UInt8) (a b : Int) (lim : Nat) : Nat := if tkE l a b lim = 0 then tkk l b else 0
theorem tk_no {l : List UInt8} {a b : Int} {lim : Nat} {k : Int} (h : tkE l a b lim = k) (hk : k ≠ 0) : tkN l a b lim = 0 ∧ tkK l a b lim = 0 := by
  unfold tkN tkK; rw [if_neg (by rw [h]; exact hk), if_neg (by rw [h]; exact hk)]; exact ⟨rfl, rfl⟩
theorem vl_E (l : List UInt8) (lim : Nat) : (vlE l lim = 5 ∧ vlN l lim = 0 ∧ lim < dv l) ∨ (vlE l lim = 0 ∧ vlN l lim = dv l ∧ dv l ≤ lim) := by
  unfold vlE vlN; by_cases h : lim < dv l
  · rw [if_pos h, if_pos h]; exact .inl ⟨rfl, rfl, h⟩
  · rw [if_neg h, if_neg h]; exact .inr ⟨rfl, rfl, by omega⟩

set_option maxHeartbeats 800000 in
theorem take_any (s : ByteArray) (a b : Int) (lim : Nat) (w : World) (hs : s.size ≤ maxLen) (ha : fits a) (hb : fits b) (hl : 9 ≤ lim) (hl2 : lim ≤ 9223372036854775808) :
    Calls Tryz.prog 120 #[.string s, .int .i64 a, .int .i64 b, .int .u64 lim] w fun e w' =>
      e = .returned (.tuple #[.int .u64 (tkN s.data.toList a b lim : Nat), .int .i64 (tkK s.data.toList a b lim : Nat), ev (tkE s.data.toList a b lim)]) ∧ w = w' := by
  by_cases hr : tkR a b = true
  · have e : tkE s.data.toList a b lim = 1 := by unfold tkE; rw [if_pos hr]
    obtain ⟨e1, e2⟩ := tk_no e (by decide)
    rw [e, e1, e2]; clear e e1 e2
    have hr' : a < 1 ∨ (¬ a < 1 ∧ b < a) ∨ (¬ a < 1 ∧ ¬ b < a ∧ 20 < b) := by unfold tkR at hr; simp at hr; omega
    clear hr
    rcases hr' with h1 | ⟨h1, h2⟩ | ⟨h1, h2, h3⟩
    all_goals
      go_enter Tryz.func120, Tryz.ntmps120
      go_wp2
      go_ret3
      exact ⟨rfl, rfl⟩
  · have hr' : ¬ a < 1 ∧ ¬ b < a ∧ ¬ 20 < b := by unfold tkR at hr; simp at hr; omega
    have hE : tkE s.data.toList a b lim = if (tkk s.data.toList b : Int) < a then 2 else vlE (s.data.toList.take (tkk s.data.toList b)) lim := by unfold tkE; rw [if_neg hr]
    clear hr
    obtain ⟨h1, h2, h3⟩ := hr'
    obtain ⟨m, rfl⟩ := Int.eq_ofNat_of_zero_le (show 0 ≤ b by omega)
    have hk : tkk s.data.toList m = min (lead s.data.toList) m := by unfold tkk; rfl
    obtain ⟨n, hn⟩ : ∃ n : Nat, n = tkk s.data.toList m := ⟨_, rfl⟩
    rw [← hn] at hE hk
    have hle := lead_le s.data.toList
    have hsz : s.data.toList.length = s.size := by simp
    have hns : n ≤ s.size := by omega
    have hn20 : n ≤ 20 := by omega
    have HC := Lib.hid (count_any s m w hs)
    rw [← hk] at HC
    have HE := Lib.hid hE; have HN := Lib.hid hn
    clear hE hn hk hle hsz hs
    by_cases h4 : (n : Int) < a
    · have e : tkE s.data.toList a m lim = 2 := by rw [HE.out, if_pos h4]
      obtain ⟨e1, e2⟩ := tk_no e (by decide)
      rw [e, e1, e2]; clear e e1 e2
      go_enter Tryz.func120, Tryz.ntmps120
      go_wp2_with (go_at_call 150; refine HC.out.mono ?_; rintro e w' ⟨rfl, rfl⟩)
      go_ret3
      exact ⟨rfl, rfl⟩
    · have hv := value_any (s.extract 0 n) lim w (by rw [ByteArray.size_extract]; omega) (by rw [Lib.extract_upto]; exact lead_mem (by have := HN.out; unfold tkk at this; omega)) hl hl2
      rw [show (s.extract 0 n).data.toList = s.data.toList.take n by rw [Lib.extract_upto]] at hv
      rw [if_neg h4] at HE
      rcases vl_E (s.data.toList.take n) lim with ⟨v1, v2, v3⟩ | ⟨v1, v2, v3⟩
      · rw [v1, v2] at hv; rw [v1] at HE
        obtain ⟨e1, e2⟩ := tk_no HE.out (by decide)
        rw [HE.out, e1, e2]
        have HV := Lib.hid hv
        clear hv e1 e2 v1 v2 v3 HE hl hl2 ha hb
        have q0 := fun op t x k => guard_ev op t w x k
        have q2 := fun k => neq_ev w k
        go_enter Tryz.func120, Tryz.ntmps120
        go_wp2_with (first
          | (go_at_call 150; refine HC.out.mono ?_; rintro e w' ⟨rfl, rfl⟩)
          | (go_at_call 151; refine HV.out.mono ?_; rintro e w' ⟨rfl, rfl⟩))
        go_ret3
        exact ⟨rfl, rfl⟩
      · rw [v1, v2] at hv; rw [v1] at HE
        have e1 : tkN s.data.toList a m lim = dv (s.data.toList.take n) := by unfold tkN; rw [if_pos HE.out, ← HN.out]
        have e2 : tkK s.data.toList a m lim = n := by unfold tkK; rw [if_pos HE.out, ← HN.out]
        rw [HE.out, e1, e2]
        have HV := Lib.hid hv
        obtain ⟨d, hd⟩ : ∃ d : Nat, d = dv (s.data.toList.take n) := ⟨_, rfl⟩
        rw [← hd] at HV v3 ⊢
        clear hv e1 e2 v1 v2 v3 HE hd hl hl2 ha hb
        have q0 := fun op t x k => guard_ev op t w x k
        have q2 := fun k => neq_ev w k
        go_enter Tryz.func120, Tryz.ntmps120
        go_wp2_with (first
          | (go_at_call 150; refine HC.out.mono ?_; rintro e w' ⟨rfl, rfl⟩)
          | (go_at_call 151; refine HV.out.mono ?_; rintro e w' ⟨rfl, rfl⟩))
        go_ret3
        exact ⟨rfl, rfl⟩

/-- The whole text's number; its error's number. -/
def whE (l : List UInt8) (a b : Int) (lim : Nat) : Int := if tkE l a b lim = 0 then (if tkK l a b lim < l.length then 2 else 0) else tkE l a b lim
def whN (l : List UInt8) (a b : Int) (lim : Nat) : Nat := if whE l a b lim = 0 then tkN l a b lim else 0
theorem tkE_cases (l : List UInt8) (a b : Int) (lim : Nat) : tkE l a b lim = 1 ∨ tkE l a b lim = 2 ∨ tkE l a b lim = 5 ∨ tkE l a b lim = 0 := by
  unfold tkE; split
  · exact .inl rfl
  · split
    · exact .inr (.inl rfl)
    · rcases vl_E (l.take (tkk l b)) lim with ⟨h, _⟩ | ⟨h, _⟩ <;> rw [h]
      · exact .inr (.inr (.inl rfl))
      · exact .inr (.inr (.inr rfl))
theorem tkN_le (l : List UInt8) (a b : Int) (lim : Nat) : tkN l a b lim ≤ lim := by
  unfold tkN; split
  · rename_i h
    unfold tkE at h
    split at h
    · cases h
    · split at h
      · cases h
      · rcases vl_E (l.take (tkk l b)) lim with ⟨h', _⟩ | ⟨_, _, h'⟩
        · rw [h'] at h; cases h
        · exact h'
  · omega
theorem tkK_le (l : List UInt8) (a b : Int) (lim : Nat) : tkK l a b lim ≤ l.length := by
  unfold tkK tkk; split
  · have := lead_le l; omega
  · omega
theorem whN_le (l : List UInt8) (a b : Int) (lim : Nat) : whN l a b lim ≤ lim := by unfold whN; split; exact tkN_le _ _ _ _; omega

end Go.Proofs.YtdonicaiimeleaaGreatDoor
