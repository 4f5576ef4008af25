/- Merged: DayF, DayG, ListK, ListL. -/
import Derived.Test.YtiamggjebaabkaaGreatDoorGListPuts35
import Derived.Test.YtiamggjebaabkaaGreatDoorGListPuts12
import Derived.Test.YtiamggjebaabkaaGreatDoorGListPuts30
namespace Go.Proofs.YtiamggjebaabkaaGreatDoor
open Go.RowKit
set_option linter.unusedVariables false

set_option maxHeartbeats 2000000 in
theorem rstart_any (y : Int) (w : World) (h : -30000 ≤ y) (h' : y ≤ 30000) : Calls Tryz.prog 43 #[.int .i64 y] w fun e w' => e = .returned (.int .i64 (st y)) ∧ w = w' := by
  have bs := st_bd h h'
  have hD := fun y w => rdays_any y w
  have HD := Lib.hid hD; clear hD
  obtain ⟨S, hS⟩ : ∃ S, S = st y := ⟨_, rfl⟩
  have HS := Lib.hid hS
  rw [← hS] at bs ⊢
  clear hS
  go_enter Tryz.func43, Tryz.ntmps43
  go_wp2
  go_loop [0, 3] (fun a b => ∃ x n : Int, a = .int .i64 x ∧ b = .int .i64 n ∧ -30000 ≤ x ∧ x ≤ 30000 ∧ -40000000 ≤ n ∧ n ≤ 0 ∧ Hid (n + st x = S)) (fun a _ => (1970 - intOf a).toNat)
  case atStart => exact ⟨y, 0, rfl, rfl, h, h', by omega, by omega, Lib.hid (by rw [HS.out]; omega)⟩
  case round =>
    obtain ⟨x, n, rfl, rfl, x1, x2, n1, n2, I⟩ := hrel
    by_cases hlt : x < 1970
    · have I2 : Hid (n - 146097 + st (x + 400) = S) := Lib.hid (by rw [st_cycle, ← I.out]; omega)
      have bx : -40000000 ≤ n - 146097 := by have := st_mono (a := x) (b := 1969) (by omega); have := I.out; rw [show st 1969 = -365 by decide] at *; omega
      go_wp2
      go_round
      case rel => exact ⟨x + 400, n - 146097, rfl, rfl, by omega, by omega, bx, by omega, I2⟩
      case measure => simp [intOf]; omega
    · have x0 : 1970 ≤ x := by omega
      have n0 : -40000000 ≤ n ∧ n ≤ 0 := ⟨n1, n2⟩
      clear hlt n1 n2
      go_wp2
      go_loop [0, 3] (fun a b => ∃ x n : Int, a = .int .i64 x ∧ b = .int .i64 n ∧ 1970 ≤ x ∧ x ≤ 30000 ∧ -40000000 ≤ n ∧ n ≤ 40000000 ∧ Hid (n + st x = S)) (fun a _ => (intOf a).toNat)
      case atStart => exact ⟨x, n, rfl, rfl, x0, x2, n0.1, by omega, I⟩
      case round =>
        clear I n0 x0 x1 x2
        obtain ⟨x, n, rfl, rfl, x1, x2, n1, n2, I⟩ := hrel
        by_cases hge : x ≥ 2370
        · have I2 : Hid (n + 146097 + st (x - 400) = S) := Lib.hid (by have := st_cycle (x - 400); rw [show x - 400 + 400 = x by omega] at this; rw [← I.out]; omega)
          have bx : n + 146097 ≤ 40000000 := by have := st_mono (a := 1970) (b := x - 400) (by omega); have := I2.out; rw [st_1970] at *; omega
          go_wp2
          go_round
          case rel => exact ⟨x - 400, n + 146097, rfl, rfl, by omega, by omega, by omega, bx, I2⟩
          case measure => simp [intOf]; omega
        · have x3 : x < 2370 := by omega
          clear hge x2
          go_wp2
          go_loop [3, 4] (fun a b => ∃ v z : Int, a = .int .i64 v ∧ b = .int .i64 z ∧ 1970 ≤ z ∧ z ≤ x ∧ -40000000 ≤ v ∧ v ≤ 50000000 + 400 * (z - 1970) ∧ Hid (v = n + st z)) (fun _ b => (x - intOf b).toNat)
          case atStart => exact ⟨n, 1970, rfl, rfl, by omega, x1, n1, by omega, Lib.hid (by rw [st_1970]; omega)⟩
          case round =>
            obtain ⟨v, z, rfl, rfl, z1, z2, v1, v2, J⟩ := hrel
            by_cases hl : z < x
            · have J2 : Hid (v + yd z = n + st (z + 1)) := Lib.hid (by rw [st_succ, J.out]; omega)
              have b := yd_bd z
              have hD := HD.out z w
              generalize yd z = l at *
              go_wp2_with (go_at_call 67; refine hD.mono ?_; rintro e w' ⟨rfl, rfl⟩)
              go_round
              case rel => exact ⟨v + l, z + 1, rfl, rfl, by omega, by omega, by omega, by omega, J2⟩
              case measure => simp [intOf]; omega
            · obtain rfl : x = z := by omega
              have E : Hid (v = S) := Lib.hid (by rw [J.out]; exact I.out)
              go_wp2
              go_ret
              exact ⟨ret1_eq (int_eq E.out), rfl⟩
theorem rlast_any (w : World) : Calls Tryz.prog 44 #[] w fun e w' => e = .returned (.int .i64 2932896) ∧ w = w' := by
  have hS := rstart_any 10000 w (by omega) (by omega)
  rw [st_end] at hS
  go_enter Tryz.func44, Tryz.ntmps44
  go_wp2_with (go_at_call 43; refine hS.mono ?_; rintro e w' ⟨rfl, rfl⟩)
  go_ret
  exact ⟨rfl, rfl⟩

set_option maxHeartbeats 1000000 in
theorem rof_any (y m d : Int) (w : World) (hy : isy y) (h : 1 ≤ m) (h' : m ≤ 12) (hd : 1 ≤ d) (hd' : d ≤ 31) : Calls Tryz.prog 47 #[.int .i64 y, .int .i64 m, .int .i64 d] w fun e w' => e = .returned (.int .i64 (st y + em y (m - 1) + d - 1)) ∧ Below w.heap.size w w' := by
  have hS := rstart_any y w (by have := hy.1; omega) (by have := hy.2; omega)
  have bs := st_in hy
  have bl := yd_bd y
  clear hy
  obtain ⟨z, hz⟩ : ∃ z, z = st y := ⟨_, rfl⟩
  have HZ := Lib.hid hz
  rw [← hz] at hS bs ⊢
  generalize yd y = Y at *
  clear hz
  have hS' := Lib.hid hS; clear hS
  go_enter Tryz.func47, Tryz.ntmps47
  go_wp2_with (go_at_call 43; refine hS'.out.mono ?_; rintro e w' ⟨rfl, rfl⟩)
  go_loopg [7, 8] (13 : Nat) (fun g a b wr => ∃ v x : Int, a = .int .i64 v ∧ b = .int .i64 x ∧ 1 ≤ x ∧ x ≤ m ∧ 12 - x ≤ g ∧ z ≤ v ∧ v ≤ z + 31 * x ∧ Hid (v = z + em y (x - 1) + d - 1) ∧ Hid (Below w.heap.size w wr))
  case atStart => exact ⟨z + d - 1, 1, rfl, rfl, by omega, h, by omega, by omega, by omega, Lib.hid (by rw [show (1 : Int) - 1 = 0 by omega, em_zero]; omega), Lib.hid (Below.refl _ _)⟩
  case round =>
    obtain ⟨v, x, rfl, rfl, x1, x2, hg, v1, v2, I, B⟩ := hrel
    by_cases hl : x < m
    · have hM := fun w => rmonth_any y x w x1 (by omega)
      have b := ml_bd y x1 (by omega)
      have I2 : Hid (v + ml y x = z + em y (x + 1 - 1) + d - 1) := Lib.hid (by have := em_succ y x; rw [show x + 1 - 1 = x by omega, I.out]; omega)
      generalize ml y x = l at *
      have HM := Lib.hid hM; clear hM
      go_wp2_with fail
      refine (HM.out _).mono ?_
      rintro e w1 ⟨rfl, hb⟩
      have B2 := Lib.hid (B.out.trans (hb.mono B.out.size))
      clear hb
      go_wp2_with fail
      go_roundg (12 - (x + 1)).toNat
      case measure => omega
      case rel => exact ⟨v + l, x + 1, rfl, rfl, by omega, by omega, by omega, by omega, by omega, I2, B2⟩
    · obtain rfl : m = x := by omega
      go_wp2
      go_ret
      exact ⟨ret1_eq (int_eq I.out), B.out⟩

end Go.Proofs.YtiamggjebaabkaaGreatDoor

namespace Go.Proofs.YtiamggjebaabkaaGreatDoor
open Go.RowKit
set_option linter.unusedVariables false

/-- Below the year's end lies a date whose month isn't over. -/
theorem month_left (y x : Int) (h1 : 1 ≤ x) (h2 : x ≤ 12) (r n : Int) (hn : r = n - st y - em y (x - 1)) (hr : n < st (y + 1)) : (¬ r ≥ ml y x) ∨ (r ≥ ml y x ∧ x < 12) := by
  by_cases c : r ≥ ml y x
  · refine Or.inr ⟨c, ?_⟩
    have e := em_succ y x
    rcases (by omega : x < 12 ∨ x = 12) with g | rfl
    · exact g
    · have k := em_yd y
      rw [st_succ] at hr
      omega
  · exact Or.inl c

set_option maxHeartbeats 4000000 in
theorem rdate_some (n y m d : Int) (w : World) (hd : Dt n y m d) :
    Calls Tryz.prog 45 #[.int .i64 n] w fun e w' => e = .returned (.tuple #[.int .i64 y, .int .i64 m, .int .i64 d]) ∧ Below w.heap.size w w' := by
  have hr := hd.range
  have DT := Lib.hid hd
  have hD := Lib.hid (fun y w => rdays_any y w)
  have hM := Lib.hid (fun y m w h h' => rmonth_any y m w h h')
  clear hd
  go_enter Tryz.func45, Tryz.ntmps45
  go_wp2
  go_loop [0, 5] (fun a b => ∃ r x : Int, a = .int .i64 r ∧ b = .int .i64 x ∧ -5000000 ≤ r ∧ r ≤ 5000000 ∧ -30000 ≤ x ∧ x ≤ 1970 ∧ Hid (r + st x = n)) (fun a _ => (-(intOf a)).toNat)
  case atStart => exact ⟨n, 1970, rfl, rfl, by omega, by omega, by omega, by omega, Lib.hid (by rw [st_1970]; omega)⟩
  case round =>
    obtain ⟨r, x, rfl, rfl, r1, r2, x1, x2, I⟩ := hrel
    by_cases hlt : r < 0
    · have I2 : Hid (r + 146097 + st (x - 400) = n) := Lib.hid (by have := st_cycle (x - 400); rw [show x - 400 + 400 = x by omega] at this; rw [← I.out]; omega)
      have bx : -29000 ≤ x := by have h0 := I.out; unfold st at h0; omega
      go_wp2
      go_round
      case rel => exact ⟨r + 146097, x - 400, rfl, rfl, by omega, by omega, by omega, by omega, I2⟩
      case measure => simp [intOf]; omega
    · have r0 : 0 ≤ r := by omega
      have r3 := r2
      have x3 := x1
      clear hlt r1 r2 x1 x2
      go_wp2
      go_loop [0, 5] (fun a b => ∃ r x : Int, a = .int .i64 r ∧ b = .int .i64 x ∧ 0 ≤ r ∧ r ≤ 5000000 ∧ Hid (r + st x = n)) (fun a _ => (intOf a).toNat)
      case atStart => exact ⟨r, x, rfl, rfl, r0, r3, I⟩
      case round =>
        clear I r0 r3 x3
        obtain ⟨r, x, rfl, rfl, r1, r2, I⟩ := hrel
        have x1 : -30000 ≤ x ∧ x ≤ 29000 := by have h0 := I.out; unfold st at h0; omega
        by_cases hge : r ≥ 146097
        · have I2 : Hid (r - 146097 + st (x + 400) = n) := Lib.hid (by have := st_cycle x; rw [← I.out]; omega)
          go_wp2
          go_round
          case rel => exact ⟨r - 146097, x + 400, rfl, rfl, by omega, by omega, I2⟩
          case measure => simp [intOf]; omega
        · clear x1
          go_wp2
          clear hge
          go_loop [0, 5] (fun a b => ∃ r x : Int, a = .int .i64 r ∧ b = .int .i64 x ∧ 0 ≤ r ∧ r ≤ 5000000 ∧ Hid (r + st x = n)) (fun a _ => (intOf a).toNat)
          case atStart => exact ⟨r, x, rfl, rfl, r1, r2, I⟩
          case round =>
            clear I r1 r2
            obtain ⟨r, x, rfl, rfl, r1, r2, I⟩ := hrel
            have x1 : -30000 ≤ x ∧ x ≤ 29000 := by have h0 := I.out; unfold st at h0; omega
            have hd := hD.out x
            have b := yd_bd x
            have sx := st_succ x
            have SX := Lib.hid sx
            clear sx
            obtain ⟨l, hl⟩ : ∃ l, l = yd x := ⟨_, rfl⟩
            have HL := Lib.hid hl
            rw [← hl] at hd b
            clear hl
            have HD := Lib.hid hd; clear hd
            by_cases hge : r ≥ l
            · have I2 : Hid (r - l + st (x + 1) = n) := Lib.hid (by rw [SX.out, ← HL.out, ← I.out]; omega)
              go_wp2_with (go_at_call 67; refine (HD.out _).mono ?_; rintro e w' ⟨rfl, rfl⟩)
              go_round
              case rel => exact ⟨r - l, x + 1, rfl, rfl, by omega, by omega, I2⟩
              case measure => simp [intOf]; omega
            · obtain ⟨rfl, hn1, hn2⟩ : x = y ∧ r = n - st x ∧ n < st (x + 1) := by
                have e := DT.out.ends
                have i := I.out; have s := SX.out; rw [← HL.out] at s
                refine ⟨?_, by omega, by omega⟩
                rcases (by omega : x < y ∨ y < x ∨ x = y) with g | g | g
                · have := st_mono (show x + 1 ≤ y by omega); omega
                · have := st_mono (show y + 1 ≤ x by omega); omega
                · exact g
              have N1 := Lib.hid hn1; have N2 := Lib.hid hn2
              clear hn1 hn2 I SX HL x1
              obtain ⟨r0, hr0⟩ : ∃ r0, r0 = r := ⟨_, rfl⟩
              have R0 := Lib.hid hr0
              clear hr0
              go_wp2_with (go_at_call 67; refine (HD.out _).mono ?_; rintro e w' ⟨rfl, rfl⟩)
              go_loopg [0, 6] (13 : Nat) (fun g a b wr => ∃ v z : Int, a = .int .i64 v ∧ b = .int .i64 z ∧ 1 ≤ z ∧ z ≤ 12 ∧ 12 - z ≤ g ∧ 0 ≤ v ∧ v ≤ 5000000 ∧ Hid (v = n - st x - em x (z - 1)) ∧ Hid (Below w.heap.size w wr))
              case atStart => exact ⟨r, 1, rfl, rfl, by omega, by omega, by omega, r1, r2, Lib.hid (by rw [show (1 : Int) - 1 = 0 by omega, em_zero]; have := N1.out; omega), Lib.hid (Below.refl _ _)⟩
              case round =>
                clear r1 r2 hge b N1 R0
                obtain ⟨v, z, rfl, rfl, z1, z2, hg, v1, v2, J, B⟩ := hrel
                have hm := hM.out x z
                have bm := ml_bd x z1 z2
                have es : Hid (em x z = em x (z - 1) + ml x z) := Lib.hid (em_succ x z)
                have mo := month_left x z z1 z2 v n J.out N2.out
                have hm' := fun w => hm w z1 z2
                clear hm
                have HM := Lib.hid hm'; clear hm'
                obtain ⟨q, hq⟩ : ∃ q, q = ml x z := ⟨_, rfl⟩
                have HQ := Lib.hid hq
                rw [← hq] at HM bm es mo
                clear hq
                rcases mo with hge | ⟨hge, hz⟩
                · go_wp2_with fail
                  refine (HM.out _).mono ?_
                  rintro e w1 ⟨rfl, hb⟩
                  have B2 := Lib.hid (B.out.trans (hb.mono B.out.size))
                  clear hb
                  go_wp2_with fail
                  have D : Dt n x z (v + 1) := ⟨DT.out.1, z1, z2, by omega, by rw [← HQ.out]; omega, by have := J.out; omega⟩
                  obtain ⟨_, e2, e3⟩ := D.one DT.out
                  go_ret3
                  exact ⟨ret3_eq rfl (int_eq e2) (int_eq e3), B2.out⟩
                · go_wp2_with fail
                  refine (HM.out _).mono ?_
                  rintro e w1 ⟨rfl, hb⟩
                  have B2 := Lib.hid (B.out.trans (hb.mono B.out.size))
                  clear hb
                  go_wp2_with fail
                  refine (HM.out _).mono ?_
                  rintro e w2 ⟨rfl, hb⟩
                  have B3 := Lib.hid (B2.out.trans (hb.mono B2.out.size))
                  clear hb
                  have J2 : Hid (v - q = n - st x - em x (z + 1 - 1)) := Lib.hid (by rw [show z + 1 - 1 = z by omega, es.out]; have := J.out; omega)
                  go_wp2_with fail
                  go_roundg (12 - (z + 1)).toNat
                  case measure => omega
                  case rel => exact ⟨v - q, z + 1, rfl, rfl, by omega, by omega, by omega, by omega, by omega, J2, B3⟩

end Go.Proofs.YtiamggjebaabkaaGreatDoor

namespace Go.Proofs.YtiamggjebaabkaaGreatDoor
open Go.RowKit Go.WideShapes Go.ChangeShapes
set_option linter.unusedVariables false
set_option linter.unusedSimpArgs false

/-- What has been read of a text. -/
structure Rd11 where
  L : List Rw
  u : Int
  e : Int
  m : Int
  h : Int
  s : Int
  x0 : Int
  x1 : Int
  x2 : Int
  x3 : Int
  x4 : Int
/-- A line's error. -/
def on11 (r : Rd11) (l : List UInt8) : Int :=
  if wdL l = [] then 0 else
  if l.take 2 = [35, 36] then twE (tiE (l.drop 2)) r.m else
  if l.take 2 = [35, 64] then twE (tiE (l.drop 2)) r.h else
  if l.take 2 = [35, 104] then (if gpL (l.drop 2) = false ∨ (wdL (l.drop 2)).length ≠ 5 ∨ 0 < r.s then 2 else suE (wdL (l.drop 2))) else
  if l[0]? = some 35 then 0 else rwE l
/-- What has been read behind a right line. -/
def nx11 (r : Rd11) (l : List UInt8) : Rd11 :=
  if wdL l = [] then r else
  if l.take 2 = [35, 36] then { r with u := (tiN (l.drop 2) : Nat), m := r.m + 1 } else
  if l.take 2 = [35, 64] then { r with e := (tiN (l.drop 2) : Nat), h := r.h + 1 } else
  if l.take 2 = [35, 104] then { r with s := 1, x0 := (suN (wdL (l.drop 2)) 0 : Nat), x1 := (suN (wdL (l.drop 2)) 1 : Nat), x2 := (suN (wdL (l.drop 2)) 2 : Nat), x3 := (suN (wdL (l.drop 2)) 3 : Nat), x4 := (suN (wdL (l.drop 2)) 4 : Nat) } else
  if l[0]? = some 35 then r else { r with L := r.L ++ [⟨(rwA l : Nat) / 86400 + -25567, (rwO11 l : Nat)⟩] }
end Go.Proofs.YtiamggjebaabkaaGreatDoor

namespace Go.Proofs.YtiamggjebaabkaaGreatDoor
set_option linter.unusedVariables false
set_option linter.unusedSimpArgs false

/-- What has been read of the first K lines. -/
def alR (ls : List (List UInt8)) : Nat → Rd11
  | 0 => ⟨[], 0, 0, 0, 0, 0, 0, 0, 0, 0, 0⟩
  | K + 1 => nx11 (alR ls K) (ls.getD K [])
theorem nx_bd (r : Rd11) (l : List UInt8) (K : Nat) (h : r.L.length ≤ K ∧ 0 ≤ r.m ∧ r.m ≤ K ∧ 0 ≤ r.h ∧ r.h ≤ K ∧ 0 ≤ r.s) :
    (nx11 r l).L.length ≤ K + 1 ∧ 0 ≤ (nx11 r l).m ∧ (nx11 r l).m ≤ K + 1 ∧ 0 ≤ (nx11 r l).h ∧ (nx11 r l).h ≤ K + 1 ∧ 0 ≤ (nx11 r l).s := by
  obtain ⟨h1, h2, h3, h4, h5, h6⟩ := h
  unfold nx11
  split
  · exact ⟨by omega, by omega, by omega, by omega, by omega, by omega⟩
  split
  · exact ⟨by dsimp; omega, by dsimp; omega, by dsimp; omega, by dsimp; omega, by dsimp; omega, by dsimp; omega⟩
  split
  · exact ⟨by dsimp; omega, by dsimp; omega, by dsimp; omega, by dsimp; omega, by dsimp; omega, by dsimp; omega⟩
  split
  · exact ⟨by dsimp; omega, by dsimp; omega, by dsimp; omega, by dsimp; omega, by dsimp; omega, by dsimp; omega⟩
  split
  · exact ⟨by omega, by omega, by omega, by omega, by omega, by omega⟩
  · refine ⟨by dsimp; rw [List.length_append]; simp; omega, by dsimp; omega, by dsimp; omega, by dsimp; omega, by dsimp; omega, by dsimp; omega⟩
theorem al_bd (ls : List (List UInt8)) : ∀ K : Nat, (alR ls K).L.length ≤ K ∧ 0 ≤ (alR ls K).m ∧ (alR ls K).m ≤ K ∧ 0 ≤ (alR ls K).h ∧ (alR ls K).h ≤ K ∧ 0 ≤ (alR ls K).s
  | 0 => ⟨Nat.le_refl _, Int.le_refl _, Int.le_refl _, Int.le_refl _, Int.le_refl _, Int.le_refl _⟩
  | K + 1 => by
    have := nx_bd (alR ls K) (ls.getD K []) K (al_bd ls K)
    unfold alR
    exact_mod_cast this
/-- The first n lines are right. -/
def alG (ls : List (List UInt8)) (n : Nat) : Prop := ∀ j, j < n → on11 (alR ls j) (ls.getD j []) = 0

end Go.Proofs.YtiamggjebaabkaaGreatDoor
