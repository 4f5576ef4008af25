/- Merged: ListAN, ListAO, ListAP, ListAQ. -/
import Derived.Test.YtiamggjebaabkaaGreatDoorGListBack43
import Derived.Test.YtiamggjebaabkaaGreatDoorGListBack12
import Derived.Test.YtiamggjebaabkaaGreatDoorGListBack14
namespace Go.Proofs.YtiamggjebaabkaaGreatDoor
open Go.RowKit
set_option linter.unusedVariables false

theorem hv_ssg {n : Nat} (h : n < 16) : hv (ssg n) = some n := by
  have : n = 0 ∨ n = 1 ∨ n = 2 ∨ n = 3 ∨ n = 4 ∨ n = 5 ∨ n = 6 ∨ n = 7 ∨ n = 8 ∨ n = 9 ∨ n = 10 ∨ n = 11 ∨ n = 12 ∨ n = 13 ∨ n = 14 ∨ n = 15 := by omega
  rcases this with h | h | h | h | h | h | h | h | h | h | h | h | h | h | h | h <;> subst h <;> decide
theorem hx_four (a b c d : UInt8) : hxA (hxL [a, b, c, d]) = true ∧ hxS (hxL [a, b, c, d]) 8 = a.toNat * 16777216 + b.toNat * 65536 + c.toNat * 256 + d.toNat := by
  have ha := a.toNat_lt; have hb := b.toNat_lt; have hc := c.toNat_lt; have hd := d.toNat_lt
  have e : hxL [a, b, c, d] = [ssg (a.toNat / 16), ssg (a.toNat % 16), ssg (b.toNat / 16), ssg (b.toNat % 16), ssg (c.toNat / 16), ssg (c.toNat % 16), ssg (d.toNat / 16), ssg (d.toNat % 16)] := rfl
  rw [e]
  have s0 : hxS [ssg (a.toNat / 16), ssg (a.toNat % 16), ssg (b.toNat / 16), ssg (b.toNat % 16), ssg (c.toNat / 16), ssg (c.toNat % 16), ssg (d.toNat / 16), ssg (d.toNat % 16)] 0 = 0 := rfl
  have s1 := hxS_next (l := [ssg (a.toNat / 16), ssg (a.toNat % 16), ssg (b.toNat / 16), ssg (b.toNat % 16), ssg (c.toNat / 16), ssg (c.toNat % 16), ssg (d.toNat / 16), ssg (d.toNat % 16)]) (k := 0) rfl (hv_ssg (n := a.toNat / 16) (by omega))
  have s2 := hxS_next (l := [ssg (a.toNat / 16), ssg (a.toNat % 16), ssg (b.toNat / 16), ssg (b.toNat % 16), ssg (c.toNat / 16), ssg (c.toNat % 16), ssg (d.toNat / 16), ssg (d.toNat % 16)]) (k := 1) rfl (hv_ssg (n := a.toNat % 16) (by omega))
  have s3 := hxS_next (l := [ssg (a.toNat / 16), ssg (a.toNat % 16), ssg (b.toNat / 16), ssg (b.toNat % 16), ssg (c.toNat / 16), ssg (c.toNat % 16), ssg (d.toNat / 16), ssg (d.toNat % 16)]) (k := 2) rfl (hv_ssg (n := b.toNat / 16) (by omega))
  have s4 := hxS_next (l := [ssg (a.toNat / 16), ssg (a.toNat % 16), ssg (b.toNat / 16), ssg (b.toNat % 16), ssg (c.toNat / 16), ssg (c.toNat % 16), ssg (d.toNat / 16), ssg (d.toNat % 16)]) (k := 3) rfl (hv_ssg (n := b.toNat % 16) (by omega))
  have s5 := hxS_next (l := [ssg (a.toNat / 16), ssg (a.toNat % 16), ssg (b.toNat / 16), ssg (b.toNat % 16), ssg (c.toNat / 16), ssg (c.toNat % 16), ssg (d.toNat / 16), ssg (d.toNat % 16)]) (k := 4) rfl (hv_ssg (n := c.toNat / 16) (by omega))
  have s6 := hxS_next (l := [ssg (a.toNat / 16), ssg (a.toNat % 16), ssg (b.toNat / 16), ssg (b.toNat % 16), ssg (c.toNat / 16), ssg (c.toNat % 16), ssg (d.toNat / 16), ssg (d.toNat % 16)]) (k := 5) rfl (hv_ssg (n := c.toNat % 16) (by omega))
  have s7 := hxS_next (l := [ssg (a.toNat / 16), ssg (a.toNat % 16), ssg (b.toNat / 16), ssg (b.toNat % 16), ssg (c.toNat / 16), ssg (c.toNat % 16), ssg (d.toNat / 16), ssg (d.toNat % 16)]) (k := 6) rfl (hv_ssg (n := d.toNat / 16) (by omega))
  have s8 := hxS_next (l := [ssg (a.toNat / 16), ssg (a.toNat % 16), ssg (b.toNat / 16), ssg (b.toNat % 16), ssg (c.toNat / 16), ssg (c.toNat % 16), ssg (d.toNat / 16), ssg (d.toNat % 16)]) (k := 7) rfl (hv_ssg (n := d.toNat % 16) (by omega))
  rw [s0] at s1
  simp only [Nat.zero_add, Nat.zero_mul, Nat.reduceAdd] at s1 s2 s3 s4 s5 s6 s7 s8
  generalize hxS [ssg (a.toNat / 16), ssg (a.toNat % 16), ssg (b.toNat / 16), ssg (b.toNat % 16), ssg (c.toNat / 16), ssg (c.toNat % 16), ssg (d.toNat / 16), ssg (d.toNat % 16)] = f at *
  refine ⟨?_, by omega⟩
  refine hxA_all fun k x hk => ?_
  have hm : x ∈ [ssg (a.toNat / 16), ssg (a.toNat % 16), ssg (b.toNat / 16), ssg (b.toNat % 16), ssg (c.toNat / 16), ssg (c.toNat % 16), ssg (d.toNat / 16), ssg (d.toNat % 16)] := List.mem_of_getElem? hk
  simp only [List.mem_cons, List.not_mem_nil, or_false] at hm
  rcases hm with rfl | rfl | rfl | rfl | rfl | rfl | rfl | rfl <;> rw [hv_ssg (by omega)] <;> rfl
/-- A word's digits are the word. -/
theorem hx_word (x : BitVec 32) : hxN (hxL (be 4 x.toNat)) = x.toNat ∧ hxB (hxL (be 4 x.toNat)) = true ∧ (hxL (be 4 x.toNat)).length = 8 := by
  have hx := x.isLt
  have hl : (hxL (be 4 x.toNat)).length = 8 := by rw [hxL_len, be_len]
  have e : be 4 x.toNat = [UInt8.ofNat (x.toNat / 256 ^ 3 % 256), UInt8.ofNat (x.toNat / 256 ^ 2 % 256), UInt8.ofNat (x.toNat / 256 ^ 1 % 256), UInt8.ofNat (x.toNat / 256 ^ 0 % 256)] := rfl
  obtain ⟨h1, h2⟩ := hx_four (UInt8.ofNat (x.toNat / 256 ^ 3 % 256)) (UInt8.ofNat (x.toNat / 256 ^ 2 % 256)) (UInt8.ofNat (x.toNat / 256 ^ 1 % 256)) (UInt8.ofNat (x.toNat / 256 ^ 0 % 256))
  rw [← e] at h1 h2
  obtain ⟨k1, k2⟩ := hx_yes h1
  refine ⟨?_, by rw [k2, hl]; rfl, hl⟩
  rw [k1, hl, h2]
  simp only [UInt8.toNat_ofNat']
  omega

end Go.Proofs.YtiamggjebaabkaaGreatDoor

namespace Go.Proofs.YtiamggjebaabkaaGreatDoor
open Go.RowKit
set_option linter.unusedVariables false

theorem w8_cons (n : Nat) {h t : List UInt8} (hl : h.length = 8) : w8 (n + 1) (h ++ t) = [32] ++ (h ++ w8 n t) := by
  rw [w8, List.take_left' hl, List.drop_left' hl]; simp
theorem hxL_app (a b : List UInt8) : hxL (a ++ b) = hxL a ++ hxL b := by simp [hxL]
theorem ssg_gp {n : Nat} (h : n < 16) : gp (ssg n) = false := by
  have : n = 0 ∨ n = 1 ∨ n = 2 ∨ n = 3 ∨ n = 4 ∨ n = 5 ∨ n = 6 ∨ n = 7 ∨ n = 8 ∨ n = 9 ∨ n = 10 ∨ n = 11 ∨ n = 12 ∨ n = 13 ∨ n = 14 ∨ n = 15 := by omega
  rcases this with h | h | h | h | h | h | h | h | h | h | h | h | h | h | h | h <;> subst h <;> decide
theorem hxL_wd (D : List UInt8) : Wd (hxL D) := by
  intro b hb
  unfold hxL at hb
  obtain ⟨x, _, hx⟩ := List.mem_flatMap.1 hb
  have := x.toNat_lt
  simp only [List.mem_cons, List.not_mem_nil, or_false] at hx
  rcases hx with rfl | rfl
  · exact ssg_gp (by omega)
  · exact ssg_gp (by omega)
theorem wd_w8 (n : Nat) (x : BitVec 32) (t : List UInt8) : wdL (w8 (n + 1) (hxL (be 4 x.toNat) ++ t)) = hxL (be 4 x.toNat) :: wdL (w8 n t) := by
  have hl := (hx_word x).2.2
  rw [w8_cons n hl]
  refine wdL_cons (fun b hb => by simp at hb; subst hb; decide) (hxL_wd _) (fun e => by rw [e] at hl; exact absurd hl (by decide)) ?_
  cases n with
  | zero => exact .inl rfl
  | succ n => exact .inr rfl
theorem wd_digest (s : St) : wdL (w8 5 (hxL (byt s))) = [hxL (be 4 s.a.toNat), hxL (be 4 s.b.toNat), hxL (be 4 s.c.toNat), hxL (be 4 s.d.toNat), hxL (be 4 s.e.toNat)] := by
  have e : hxL (byt s) = hxL (be 4 s.a.toNat) ++ (hxL (be 4 s.b.toNat) ++ (hxL (be 4 s.c.toNat) ++ (hxL (be 4 s.d.toNat) ++ (hxL (be 4 s.e.toNat) ++ [])))) := by
    unfold byt
    rw [hxL_app, hxL_app, hxL_app, hxL_app, List.append_nil]
  rw [e, wd_w8, wd_w8, wd_w8, wd_w8, wd_w8]
  rfl
/-- Its words are right, and they are the digest's. -/
theorem su_digest (s : St) : suE (wdL (w8 5 (hxL (byt s)))) = 0 ∧ suN (wdL (w8 5 (hxL (byt s)))) 0 = s.a.toNat ∧ suN (wdL (w8 5 (hxL (byt s)))) 1 = s.b.toNat ∧ suN (wdL (w8 5 (hxL (byt s)))) 2 = s.c.toNat ∧ suN (wdL (w8 5 (hxL (byt s)))) 3 = s.d.toNat ∧ suN (wdL (w8 5 (hxL (byt s)))) 4 = s.e.toNat := by
  rw [wd_digest]
  refine ⟨?_, (hx_word s.a).1, (hx_word s.b).1, (hx_word s.c).1, (hx_word s.d).1, (hx_word s.e).1⟩
  unfold suE
  rw [if_pos]
  simp only [List.all_cons, List.all_nil, (hx_word s.a).2.1, (hx_word s.b).2.1, (hx_word s.c).2.1, (hx_word s.d).2.1, (hx_word s.e).2.1, Bool.and_true]

end Go.Proofs.YtiamggjebaabkaaGreatDoor

namespace Go.Proofs.YtiamggjebaabkaaGreatDoor
open Go.RowKit
set_option linter.unusedVariables false

theorem wd_first {b : UInt8} {l : List UInt8} (h : gp b = false) : wdL (b :: l) ≠ [] := fun e => by
  have := wd_none e b (by simp)
  rw [h] at this; cases this
theorem up_u (r : Rd11) {u : Int} (h : 0 ≤ u) (hu : u < 10 ^ 13) (hm : r.m = 0) : on11 r ([35, 36, 9] ++ ptL u 0) = 0 ∧ nx11 r ([35, 36, 9] ++ ptL u 0) = { r with u := u, m := r.m + 1 } := by
  obtain ⟨t1, t2⟩ := ti_dec (n := u.natAbs) (by omega)
  rw [dec_dv] at t2
  have hw : wdL (35 :: 36 :: 9 :: Lib.decDigits u.natAbs) ≠ [] := wd_first (by decide)
  rw [pt_dec h]
  show on11 r (35 :: 36 :: 9 :: Lib.decDigits u.natAbs) = 0 ∧ nx11 r (35 :: 36 :: 9 :: Lib.decDigits u.natAbs) = _
  have e1 : (35 :: 36 :: 9 :: Lib.decDigits u.natAbs : List UInt8).take 2 = [35, 36] := rfl
  have e2 : (35 :: 36 :: 9 :: Lib.decDigits u.natAbs : List UInt8).drop 2 = 9 :: Lib.decDigits u.natAbs := rfl
  have hN : ((u.natAbs : Nat) : Int) = u := by omega
  constructor
  · unfold on11
    rw [if_neg hw, if_pos e1, e2, t1]
    unfold twE
    rw [if_pos rfl, if_neg (by omega)]
  · unfold nx11
    rw [if_neg hw, if_pos e1, e2, t2, hN]
theorem up_e (r : Rd11) {u : Int} (h : 0 ≤ u) (hu : u < 10 ^ 13) (hm : r.h = 0) : on11 r ([35, 64, 9] ++ ptL u 0) = 0 ∧ nx11 r ([35, 64, 9] ++ ptL u 0) = { r with e := u, h := r.h + 1 } := by
  obtain ⟨t1, t2⟩ := ti_dec (n := u.natAbs) (by omega)
  rw [dec_dv] at t2
  have hw : wdL (35 :: 64 :: 9 :: Lib.decDigits u.natAbs) ≠ [] := wd_first (by decide)
  rw [pt_dec h]
  show on11 r (35 :: 64 :: 9 :: Lib.decDigits u.natAbs) = 0 ∧ nx11 r (35 :: 64 :: 9 :: Lib.decDigits u.natAbs) = _
  have e0 : ¬ (35 :: 64 :: 9 :: Lib.decDigits u.natAbs : List UInt8).take 2 = [35, 36] := fun e => absurd (show ([35, 64] : List UInt8) = [35, 36] from e) (by decide)
  have e1 : (35 :: 64 :: 9 :: Lib.decDigits u.natAbs : List UInt8).take 2 = [35, 64] := rfl
  have e2 : (35 :: 64 :: 9 :: Lib.decDigits u.natAbs : List UInt8).drop 2 = 9 :: Lib.decDigits u.natAbs := rfl
  have hN : ((u.natAbs : Nat) : Int) = u := by omega
  constructor
  · unfold on11
    rw [if_neg hw, if_neg e0, if_pos e1, e2, t1]
    unfold twE
    rw [if_pos rfl, if_neg (by omega)]
  · unfold nx11
    rw [if_neg hw, if_neg e0, if_pos e1, e2, t2, hN]
theorem up_row (r : Rd11) {x : Rw} (h : -25567 ≤ x.d ∧ x.d ≤ 2932896 ∧ 0 ≤ x.o ∧ x.o ≤ 1000) : on11 r (rlL x) = 0 ∧ nx11 r (rlL x) = { r with L := r.L ++ [x] } := by
  obtain ⟨k1, k2⟩ := rl_back h
  have hd : ∃ b t, rlL x = b :: t ∧ isd b = true := by
    unfold rlL
    rw [pt_dec (by unfold sc11; omega)]
    have hp := dec_pos (sc11 x.d).natAbs
    have hi := dec_isd (sc11 x.d).natAbs
    cases hc : Lib.decDigits (sc11 x.d).natAbs with
    | nil => rw [hc] at hp; exact absurd hp (by decide)
    | cons b t => exact ⟨b, _, rfl, hi b (by rw [hc]; simp)⟩
  obtain ⟨b, t, hbt, hb⟩ := hd
  have h35 : b ≠ 35 := fun e => by subst e; exact absurd hb (by decide)
  have hw : wdL (rlL x) ≠ [] := by rw [hbt]; exact wd_first (gp_isd hb)
  have ht : ∀ c : UInt8, ¬ (rlL x).take 2 = [35, c] := fun c e => by
    rw [hbt] at e
    simp at e
    exact h35 e.1
  have h0 : ¬ (rlL x)[0]? = some 35 := by rw [hbt]; simpa using h35
  constructor
  · unfold on11
    rw [if_neg hw, if_neg (ht 36), if_neg (ht 64), if_neg (ht 104), if_neg h0, k1]
  · unfold nx11
    rw [if_neg hw, if_neg (ht 36), if_neg (ht 64), if_neg (ht 104), if_neg h0, k2]
theorem up_h (r : Rd11) (s : St) (hs : r.s = 0) : on11 r ([35, 104] ++ w8 5 (hxL (byt s))) = 0 ∧
    nx11 r ([35, 104] ++ w8 5 (hxL (byt s))) = { r with s := 1, x0 := (s.a.toNat : Int), x1 := (s.b.toNat : Int), x2 := (s.c.toNat : Int), x3 := (s.d.toNat : Int), x4 := (s.e.toNat : Int) } := by
  obtain ⟨q, q0, q1, q2, q3, q4⟩ := su_digest s
  have hn : (wdL (w8 5 (hxL (byt s)))).length = 5 := by rw [wd_digest]; rfl
  have hg : gpL (w8 5 (hxL (byt s))) = true := rfl
  generalize w8 5 (hxL (byt s)) = z at *
  show on11 r (35 :: 104 :: z) = 0 ∧ nx11 r (35 :: 104 :: z) = _
  have hw : wdL (35 :: 104 :: z) ≠ [] := wd_first (by decide)
  have e0 : ¬ (35 :: 104 :: z : List UInt8).take 2 = [35, 36] := fun e => absurd (show ([35, 104] : List UInt8) = [35, 36] from e) (by decide)
  have e1 : ¬ (35 :: 104 :: z : List UInt8).take 2 = [35, 64] := fun e => absurd (show ([35, 104] : List UInt8) = [35, 64] from e) (by decide)
  have e2 : (35 :: 104 :: z : List UInt8).take 2 = [35, 104] := rfl
  have e3 : (35 :: 104 :: z : List UInt8).drop 2 = z := rfl
  constructor
  · unfold on11
    rw [if_neg hw, if_neg e0, if_neg e1, if_pos e2, e3, if_neg (by rw [hg, hn, hs]; simp), q]
  · unfold nx11
    rw [if_neg hw, if_neg e0, if_neg e1, if_pos e2, e3, q0, q1, q2, q3, q4]

end Go.Proofs.YtiamggjebaabkaaGreatDoor

namespace Go.Proofs.YtiamggjebaabkaaGreatDoor
open Go.RowKit
set_option linter.unusedVariables false

/-- All lines are right, and this has been read behind them. -/
def gdL (r : Rd11) : List (List UInt8) → Rd11 → Prop
  | [], q => r = q
  | x :: xs, q => on11 r x = 0 ∧ gdL (nx11 r x) xs q
abbrev zr11 : Rd11 := ⟨[], 0, 0, 0, 0, 0, 0, 0, 0, 0, 0⟩
theorem alR_fold (ls : List (List UInt8)) : ∀ K, K ≤ ls.length → alR ls K = (ls.take K).foldl nx11 zr11
  | 0, _ => rfl
  | K + 1, h => by
    rw [alR, alR_fold ls K (by omega), List.take_succ_eq_append_getElem (by omega), List.foldl_append]
    simp [List.getD, List.getElem?_eq_getElem (show K < ls.length by omega)]
theorem gd_fold : ∀ (ls : List (List UInt8)) (r q : Rd11), gdL r ls q → ls.foldl nx11 r = q ∧ ∀ j, j < ls.length → on11 ((ls.take j).foldl nx11 r) (ls.getD j []) = 0
  | [], r, q, h => ⟨h, fun j hj => absurd hj (Nat.not_lt_zero _)⟩
  | x :: xs, r, q, h => by
    obtain ⟨h1, h2⟩ := gd_fold xs (nx11 r x) q h.2
    refine ⟨h1, fun j hj => ?_⟩
    cases j with
    | zero => exact h.1
    | succ j => exact h2 j (by simpa using hj)
theorem gd_al {ls : List (List UInt8)} {q : Rd11} (h : gdL zr11 ls q) : alR ls ls.length = q ∧ alG ls ls.length := by
  obtain ⟨h1, h2⟩ := gd_fold ls zr11 q h
  refine ⟨by rw [alR_fold ls _ (Nat.le_refl _), List.take_length]; exact h1, fun j hj => ?_⟩
  rw [alR_fold ls j (by omega)]
  exact h2 j hj
theorem gd_rows : ∀ (L : List Rw) (r q : Rd11) (z : List (List UInt8)), (∀ j, j < L.length → -25567 ≤ rd L j ∧ rd L j ≤ 2932896 ∧ 0 ≤ ro L j ∧ ro L j ≤ 1000) → gdL { r with L := r.L ++ L } z q → gdL r (L.map rlL ++ z) q
  | [], r, q, z, _, h => by simpa using h
  | x :: L, r, q, z, h, k => by
    obtain ⟨h1, ht⟩ := vr_tail h
    obtain ⟨a1, a2⟩ := up_row r h1
    refine ⟨a1, ?_⟩
    rw [a2]
    exact gd_rows L _ q z ht (by simpa using k)
/-- The table's text is read as the table. -/
theorem al_text (L : List Rw) (u e : Int) (s : St) (hu : 0 ≤ u) (hu' : u < 10 ^ 13) (he : 0 ≤ e) (he' : e < 10 ^ 13) (h : ∀ j, j < L.length → -25567 ≤ rd L j ∧ rd L j ≤ 2932896 ∧ 0 ≤ ro L j ∧ ro L j ≤ 1000) :
    alR (spR 10 (ptTk L u e (byt s))) (spR 10 (ptTk L u e (byt s))).length = ⟨L, u, e, 1, 1, 1, (s.a.toNat : Int), (s.b.toNat : Int), (s.c.toNat : Int), (s.d.toNat : Int), (s.e.toNat : Int)⟩ ∧
    alG (spR 10 (ptTk L u e (byt s))) (spR 10 (ptTk L u e (byt s))).length := by
  rw [sp_text L u e (byt s) hu he h]
  apply gd_al
  obtain ⟨a1, a2⟩ := up_u zr11 hu hu' rfl
  refine ⟨a1, ?_⟩
  rw [a2]
  obtain ⟨b1, b2⟩ := up_e { zr11 with u := u, m := zr11.m + 1 } he he' rfl
  refine ⟨b1, ?_⟩
  rw [b2]
  refine gd_rows L _ _ _ h ?_
  obtain ⟨c1, c2⟩ := up_h ⟨[] ++ L, u, e, 0 + 1, 0 + 1, 0, 0, 0, 0, 0, 0⟩ s rfl
  refine ⟨c1, ?_⟩
  refine ⟨on_nil11 _, ?_⟩
  rw [nx_nil11]
  exact c2

end Go.Proofs.YtiamggjebaabkaaGreatDoor
