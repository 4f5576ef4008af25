/- Merged: ListAR, LeapD, LeapE. -/
import Derived.Test.YtiamggjebaabkaaGreatDoorGListRemarks43
import Derived.Test.YtiamggjebaabkaaGreatDoorGListRemarks46
import Derived.Test.YtiamggjebaabkaaGreatDoorGListRemarks36
namespace Go.Proofs.YtiamggjebaabkaaGreatDoor
open Go.RowKit
set_option linter.unusedVariables false

/-- What is read of lines: an error's number, and what was read. -/
def go11 : List (List UInt8) → Rd11 → Int × Rd11
  | [], r => (0, r)
  | x :: xs, r => if on11 r x = 0 then go11 xs (nx11 r x) else (on11 r x, r)
theorem go_two : ∀ (ls : List (List UInt8)) (r : Rd11),
    ((∀ j, j < ls.length → on11 ((ls.take j).foldl nx11 r) (ls.getD j []) = 0) ∧ go11 ls r = (0, ls.foldl nx11 r)) ∨
    ∃ K, K < ls.length ∧ (∀ j, j < K → on11 ((ls.take j).foldl nx11 r) (ls.getD j []) = 0) ∧ on11 ((ls.take K).foldl nx11 r) (ls.getD K []) ≠ 0 ∧ go11 ls r = (on11 ((ls.take K).foldl nx11 r) (ls.getD K []), (ls.take K).foldl nx11 r)
  | [], r => .inl ⟨fun j hj => absurd hj (Nat.not_lt_zero _), rfl⟩
  | x :: xs, r => by
    by_cases h : on11 r x = 0
    · rcases go_two xs (nx11 r x) with ⟨h1, h2⟩ | ⟨K, h1, h2, h3, h4⟩
      · refine .inl ⟨fun j hj => ?_, ?_⟩
        · cases j with
          | zero => exact h
          | succ j => exact h1 j (by simpa using hj)
        · rw [go11, if_pos h]; exact h2
      · refine .inr ⟨K + 1, by simpa using h1, fun j hj => ?_, h3, ?_⟩
        · cases j with
          | zero => exact h
          | succ j => exact h2 j (by omega)
        · rw [go11, if_pos h]; exact h4
    · refine .inr ⟨0, by simp, fun j hj => absurd hj (Nat.not_lt_zero _), h, ?_⟩
      rw [go11, if_neg h]; rfl
theorem go_is (ls : List (List UInt8)) : (alG ls ls.length ∧ go11 ls zr11 = (0, alR ls ls.length)) ∨
    ∃ K, K < ls.length ∧ alG ls K ∧ on11 (alR ls K) (ls.getD K []) ≠ 0 ∧ go11 ls zr11 = (on11 (alR ls K) (ls.getD K []), alR ls K) := by
  rcases go_two ls zr11 with ⟨h1, h2⟩ | ⟨K, h1, h2, h3, h4⟩
  · refine .inl ⟨fun j hj => ?_, ?_⟩
    · rw [alR_fold ls j (by omega)]; exact h1 j hj
    · rw [alR_fold ls _ (Nat.le_refl _), List.take_length]; exact h2
  · refine .inr ⟨K, h1, fun j hj => ?_, ?_, ?_⟩
    · rw [alR_fold ls j (by omega)]; exact h2 j hj
    · rw [alR_fold ls K (by omega)]; exact h3
    · rw [alR_fold ls K (by omega)]; exact h4
theorem go_app (z : List (List UInt8)) : ∀ (ls : List (List UInt8)) (r : Rd11), go11 (ls ++ z) r = if (go11 ls r).1 = 0 then go11 z (go11 ls r).2 else go11 ls r
  | [], r => by rw [List.nil_append, go11]; simp
  | x :: xs, r => by
    rw [List.cons_append, go11, go11]
    by_cases h : on11 r x = 0
    · rw [if_pos h, if_pos h, go_app z xs]
    · rw [if_neg h, if_neg h]; simp [h]
/-- A line that changes nothing. -/
def nul11 (x : List UInt8) : Prop := ∀ r, on11 r x = 0 ∧ nx11 r x = r
theorem nul_gap {x : List UInt8} (h : wdL x = []) : nul11 x := fun r => ⟨by unfold on11; rw [if_pos h], by unfold nx11; rw [if_pos h]⟩
theorem nul_nil : nul11 [] := nul_gap (by decide)
theorem nul_rem (m : List UInt8) : nul11 (35 :: 32 :: m) := fun r => by
  have h0 : (35 :: 32 :: m : List UInt8).take 2 = [35, 32] := rfl
  have h1 : (35 :: 32 :: m : List UInt8)[0]? = some 35 := rfl
  unfold on11 nx11
  rw [h0, h1]
  by_cases h : wdL (35 :: 32 :: m) = []
  · rw [if_pos h, if_pos h]; exact ⟨rfl, rfl⟩
  · rw [if_neg h, if_neg h, if_neg (by decide), if_neg (by decide), if_neg (by decide), if_pos rfl, if_neg (by decide), if_neg (by decide), if_neg (by decide), if_pos rfl]
    exact ⟨rfl, rfl⟩
theorem go_nul {x : List UInt8} (h : nul11 x) (z : List (List UInt8)) (r : Rd11) : go11 (x :: z) r = go11 z r := by
  rw [go11, if_pos (h r).1, (h r).2]
theorem go_sp (l : List UInt8) : go11 (spR 10 l) zr11 = go11 (lnL l) zr11 := by
  rcases ln_sp l with h | h
  · rw [h]
  · rw [h, go_app, go_nul nul_nil]
    by_cases c : (go11 (lnL l) zr11).1 = 0
    · rw [if_pos c, go11]; exact Prod.ext c.symm rfl
    · rw [if_neg c]

/-- Words of four bytes are what their bytes are. -/
theorem be4_inj {x y : BitVec 32} (h : be 4 x.toNat = be 4 y.toNat) : x = y := by rw [← word_back x, ← word_back y, h]
theorem byt_inj {S T : St} (h : byt S = byt T) : S = T := by
  unfold byt at h
  obtain ⟨h1, h⟩ := List.append_inj h (by rw [be_len, be_len])
  obtain ⟨h2, h⟩ := List.append_inj h (by rw [be_len, be_len])
  obtain ⟨h3, h⟩ := List.append_inj h (by rw [be_len, be_len])
  obtain ⟨h4, h5⟩ := List.append_inj h (by rw [be_len, be_len])
  have e1 := be4_inj h1; have e2 := be4_inj h2; have e3 := be4_inj h3; have e4 := be4_inj h4; have e5 := be4_inj h5
  cases S; cases T
  simp only at e1 e2 e3 e4 e5
  rw [e1, e2, e3, e4, e5]
/-- The digest's words are these numbers. -/
def sm11 (r : Rd11) (T : St) : Prop := (T.a.toNat : Int) = r.x0 ∧ (T.b.toNat : Int) = r.x1 ∧ (T.c.toNat : Int) = r.x2 ∧ (T.d.toNat : Int) = r.x3 ∧ (T.e.toNat : Int) = r.x4
instance (r : Rd11) (T : St) : Decidable (sm11 r T) := by unfold sm11; infer_instance
theorem x5_sm {r : Rd11} {S T : St} (h : X5 r S) (hs : 0 < r.s) : byt S = byt T ↔ sm11 r T := by
  obtain ⟨h0, h1, h2, h3, h4⟩ := h hs
  constructor
  · intro e
    have e := byt_inj e
    subst e
    exact ⟨h0.symm, h1.symm, h2.symm, h3.symm, h4.symm⟩
  · rintro ⟨k0, k1, k2, k3, k4⟩
    have e : S = T := by
      have e0 : S.a = T.a := BitVec.eq_of_toNat_eq (by omega)
      have e1 : S.b = T.b := BitVec.eq_of_toNat_eq (by omega)
      have e2 : S.c = T.c := BitVec.eq_of_toNat_eq (by omega)
      have e3 : S.d = T.d := BitVec.eq_of_toNat_eq (by omega)
      have e4 : S.e = T.e := BitVec.eq_of_toNat_eq (by omega)
      cases S; cases T
      simp only at e0 e1 e2 e3 e4
      rw [e0, e1, e2, e3, e4]
    rw [e]
/-- A right text's table's error. -/
noncomputable def paE11 (r : Rd11) : Int :=
  if r.m = 0 ∨ r.h = 0 then 2 else if lkE r.L r.u r.e = 0 then (if 0 < r.s ∧ ¬ sm11 r (dig (dgT r.L r.u r.e)) then 7 else 0) else lkE r.L r.u r.e
theorem paE11_lo (r : Rd11) : 0 ≤ paE11 r ∧ paE11 r < 100 := by
  have := lkE_lo r.L r.u r.e
  unfold paE11
  repeat' split
  all_goals omega
theorem paE11_zero {r : Rd11} (h : paE11 r = 0) : r.m ≠ 0 ∧ r.h ≠ 0 ∧ lkE r.L r.u r.e = 0 ∧ (0 < r.s → sm11 r (dig (dgT r.L r.u r.e))) := by
  unfold paE11 at h
  split at h
  · cases h
  rename_i c
  split at h
  · split at h
    · cases h
    · rename_i k q
      exact ⟨fun e => c (.inl e), fun e => c (.inr e), k, fun hs => Decidable.byContradiction fun n => q ⟨hs, n⟩⟩
  · exact absurd h (by assumption)
theorem ta_pa {r : Rd11} {v er : Value} {w : World} (h : TaA r v er w) (hm : 0 ≤ r.m) (hh : 0 ≤ r.h) :
    er = ev (paE11 r) ∧ (paE11 r ≠ 0 → v = .pointer none) ∧ (paE11 r = 0 → ∃ g, v = .pointer (some ⟨g, 0, none⟩) ∧ Tb 0 w g r.L r.u r.e) := by
  unfold paE11
  rcases h with ⟨c, rfl, rfl⟩ | ⟨m0, h0, k, rfl, rfl⟩ | ⟨m0, h0, k, ⟨S, x5, s0, hb⟩, rfl, rfl⟩ | ⟨m0, h0, k, hs, g, rfl, rfl, ht⟩
  · rw [if_pos c]
    exact ⟨rfl, fun _ => rfl, fun h => by cases h⟩
  · rw [if_neg (by omega), if_neg k]
    exact ⟨rfl, fun _ => rfl, fun h => absurd h k⟩
  · rw [if_neg (by omega), if_pos k, if_pos ⟨s0, fun q => hb ((x5_sm x5 s0).2 q)⟩]
    exact ⟨rfl, fun _ => rfl, fun h => by cases h⟩
  · have q : ¬ (0 < r.s ∧ ¬ sm11 r (dig (dgT r.L r.u r.e))) := by
      rintro ⟨s0, n⟩
      rcases hs with s1 | ⟨S, x5, _, hb⟩
      · omega
      · exact n ((x5_sm x5 s0).1 hb)
    rw [if_neg (by omega), if_pos k, if_neg q]
    exact ⟨rfl, fun h => absurd rfl h, fun _ => ⟨g, rfl, ht⟩⟩
/-- A text's error, and what was read of it. -/
def rg11 (l : List UInt8) : Rd11 := (go11 (lnL l) zr11).2
noncomputable def pE11 (l : List UInt8) : Int := if (go11 (lnL l) zr11).1 = 0 then paE11 (rg11 l) else (go11 (lnL l) zr11).1
/-- The same, when a text is too long. -/
noncomputable def pZ11 (l : List UInt8) : Int := if l.length ≤ 65535 then pE11 l else 3
theorem parse11_all (t : ByteArray) (w : World) (he : Eps w) (hg : GE w) (hd : Ends w) (hb : Tab w) (hs : Start w) :
    Calls Tryz.prog 8 #[.string t] w fun x w' => ∃ v, x = .returned (.tuple #[v, ev (pZ11 t.data.toList)]) ∧ (pZ11 t.data.toList ≠ 0 → v = .pointer none) ∧
      (pZ11 t.data.toList = 0 → ∃ g, v = .pointer (some ⟨g, 0, none⟩) ∧ Tb 0 w' g (rg11 t.data.toList).L (rg11 t.data.toList).u (rg11 t.data.toList).e) ∧ Below w.heap.size w w' := by
  have hz : t.data.toList.length = t.size := by rw [Array.length_toList]; rfl
  unfold pZ11
  rw [hz]
  by_cases ht : t.size ≤ 65535
  · rw [if_pos ht]
    rcases go_is (spR 10 t.data.toList) with ⟨h1, h2⟩ | ⟨K, h1, h2, h3, h4⟩
    · have h := parse11_good t w he hg ht hd hb hs h1
      rw [go_sp] at h2
      have bd := al_bd (spR 10 t.data.toList) (spR 10 t.data.toList).length
      unfold pE11 rg11
      rw [h2, if_pos rfl]
      dsimp only
      refine h.mono fun x w' ⟨⟨v, er, k1, k2⟩, k3⟩ => ?_
      obtain ⟨p1, p2, p3⟩ := ta_pa k2 bd.2.1 bd.2.2.2.1
      subst p1
      exact ⟨v, k1, p2, p3, k3⟩
    · have h := parse11_bad t w he hg ht K h1 h2 h3
      rw [go_sp] at h4
      unfold pE11
      rw [h4, if_neg h3]
      dsimp only
      exact h.mono fun x w' ⟨k1, k2⟩ => ⟨_, k1, fun _ => rfl, fun h => absurd h h3, k2⟩
  · rw [if_neg ht]
    exact (parse11_long t w ht).mono fun x w' ⟨k1, k2⟩ => ⟨_, k1, fun _ => rfl, fun h => absurd h (by decide), k2⟩

/-- The lines with two more ahead of line a, and their text. -/
def inL (ls : List (List UInt8)) (m : List UInt8) (a : Int) : Nat → List (List UInt8)
  | 0 => []
  | i + 1 => inL ls m a i ++ (if (i : Int) = a then [35 :: 32 :: m, [32, 9]] else []) ++ [ls.getD i []]
def mrL (ls : List (List UInt8)) (m : List UInt8) (a : Int) : Nat → List UInt8
  | 0 => []
  | i + 1 => mrL ls m a i ++ (if (i : Int) = a then 35 :: 32 :: (m ++ [10, 32, 9, 10]) else []) ++ (ls.getD i [] ++ [10])
theorem sp_mr {ls : List (List UInt8)} {m : List UInt8} (hm : noF m) (hls : ∀ v ∈ ls, noF v) (a : Int) : ∀ (i : Nat) (z : List UInt8), i ≤ ls.length → spR 10 (mrL ls m a i ++ z) = inL ls m a i ++ spR 10 z
  | 0, z, _ => rfl
  | i + 1, z, hi => by
    have hv : noF (ls.getD i []) := by
      rw [List.getD, List.getElem?_eq_getElem (show i < ls.length by omega)]
      exact hls _ (List.getElem_mem _)
    rw [mrL, inL]
    by_cases c : (i : Int) = a
    · rw [if_pos c, if_pos c, show mrL ls m a i ++ (35 :: 32 :: (m ++ [10, 32, 9, 10])) ++ (ls.getD i [] ++ [10]) ++ z = mrL ls m a i ++ ((35 :: 32 :: m) ++ 10 :: ([32, 9] ++ 10 :: (ls.getD i [] ++ 10 :: z))) by simp,
        sp_mr hm hls a i _ (by omega), spR_cut 10 _ (noF_cons (by decide) (noF_cons (by decide) hm)), spR_cut 10 _ (noF_cons (by decide) (noF_cons (by decide) noF_nil)), spR_cut 10 _ hv]
      simp
    · rw [if_neg c, if_neg c, show mrL ls m a i ++ [] ++ (ls.getD i [] ++ [10]) ++ z = mrL ls m a i ++ (ls.getD i [] ++ 10 :: z) by simp, sp_mr hm hls a i _ (by omega), spR_cut 10 _ hv]
      simp
theorem go_in (ls : List (List UInt8)) (m : List UInt8) (a : Int) : ∀ (i : Nat) (z : List (List UInt8)) (r : Rd11), i ≤ ls.length → go11 (inL ls m a i ++ z) r = go11 (ls.take i ++ z) r
  | 0, z, r, _ => rfl
  | i + 1, z, r, hi => by
    have e : ls.take (i + 1) = ls.take i ++ [ls.getD i []] := by
      rw [List.take_succ_eq_append_getElem (by omega), List.getD, List.getElem?_eq_getElem (show i < ls.length by omega)]; rfl
    rw [inL, e]
    by_cases c : (i : Int) = a
    · rw [if_pos c, show inL ls m a i ++ [35 :: 32 :: m, [32, 9]] ++ [ls.getD i []] ++ z = inL ls m a i ++ ((35 :: 32 :: m) :: [32, 9] :: ([ls.getD i []] ++ z)) by simp, go_in ls m a i _ r (by omega), go_app, go_nul (nul_rem m), go_nul (nul_gap (by decide)), ← go_app, List.append_assoc]
    · rw [if_neg c, show inL ls m a i ++ [] ++ [ls.getD i []] ++ z = inL ls m a i ++ ([ls.getD i []] ++ z) by simp, go_in ls m a i _ r (by omega), List.append_assoc]
theorem spR_noF : ∀ (l : List UInt8), ∀ v ∈ spR 10 l, noF v
  | [], v, h => by
    rw [spR] at h
    obtain rfl := List.mem_singleton.1 h
    exact noF_nil
  | b :: l, v, h => by
    rw [spR] at h
    have ih := spR_noF l
    split at h
    · rcases List.mem_cons.1 h with rfl | h
      · exact noF_nil
      · exact ih v h
    · rename_i hb
      cases hs : spR 10 l with
      | nil => exact absurd hs (spR_ne 10 l)
      | cons x xs =>
        rw [hs] at h ih
        rcases List.mem_cons.1 h with rfl | h
        · exact noF_cons hb (ih x (by simp))
        · exact ih v (by simp [h])
theorem lnL_noF (l : List UInt8) : ∀ v ∈ lnL l, noF v := fun v hv => by
  rcases ln_sp l with h | h
  · exact spR_noF l v (by rw [h]; exact hv)
  · exact spR_noF l v (by rw [h]; simp [hv])
/-- The longer text is read as the other one. -/
theorem go_more (l m : List UInt8) (hm : noF m) (a : Int) : go11 (lnL (mrL (lnL l) m a (lnL l).length)) zr11 = go11 (lnL l) zr11 := by
  have h := sp_mr hm (lnL_noF l) a (lnL l).length [] (Nat.le_refl _)
  rw [List.append_nil] at h
  rw [← go_sp, h, go_in _ _ _ _ _ _ (Nat.le_refl _), List.take_length, show spR 10 [] = [[]] from rfl, go_app, go_nul nul_nil]
  by_cases c : (go11 (lnL l) zr11).1 = 0
  · rw [if_pos c, go11]; exact Prod.ext c.symm rfl
  · rw [if_neg c]
theorem mrL_len (ls : List (List UInt8)) (m : List UInt8) (a : Int) : ∀ i : Nat, i ≤ ls.length → (mrL ls m a i).length ≤ (ls.take i).flatten.length + i + (if a < i then m.length + 6 else 0)
  | 0, _ => by simp [mrL]
  | i + 1, hi => by
    have ih := mrL_len ls m a i (by omega)
    rw [mrL, List.take_succ_eq_append_getElem (by omega), List.getD, List.getElem?_eq_getElem (show i < ls.length by omega), Option.getD_some]
    simp only [List.length_append, List.flatten_append, List.flatten_cons, List.flatten_nil, List.append_nil, List.length_cons, List.length_nil]
    by_cases c : (i : Int) = a
    · rw [if_neg (by omega)] at ih
      rw [if_pos c, if_pos (by omega)]
      simp only [List.length_append, List.length_cons, List.length_nil]
      omega
    · rw [if_neg c, List.length_nil]
      by_cases d : a < (i : Int)
      · rw [if_pos d] at ih
        rw [if_pos (by omega)]; omega
      · rw [if_neg d] at ih
        rw [if_neg (by omega)]; omega

theorem spR_sum : ∀ l : List UInt8, (spR 10 l).flatten.length + (spR 10 l).length = l.length + 1
  | [] => rfl
  | b :: l => by
    have ih := spR_sum l
    rw [spR]
    split
    · simp only [List.flatten_cons, List.nil_append, List.length_cons]; omega
    · cases hs : spR 10 l with
      | nil => exact absurd hs (spR_ne 10 l)
      | cons x xs =>
        rw [hs] at ih
        simp only [List.flatten_cons, List.length_append, List.length_cons] at ih ⊢
        omega
theorem lnL_sum (l : List UInt8) : (lnL l).flatten.length + (lnL l).length ≤ l.length + 1 := by
  have h := spR_sum l
  rcases ln_sp l with e | e
  · rw [e] at h; omega
  · rw [e] at h
    simp only [List.flatten_append, List.flatten_cons, List.flatten_nil, List.append_nil, List.length_append, List.length_cons, List.length_nil] at h
    omega
theorem mr_bd (l m : List UInt8) (a : Int) : (mrL (lnL l) m a (lnL l).length).length ≤ l.length + m.length + 7 := by
  have h1 := mrL_len (lnL l) m a (lnL l).length (Nat.le_refl _)
  have h2 := lnL_sum l
  rw [List.take_length] at h1
  split at h1 <;> omega

end Go.Proofs.YtiamggjebaabkaaGreatDoor

namespace Go.Proofs.YtiamggjebaabkaaGreatDoor
open Go.RowKit
set_option linter.unusedVariables false
set_option linter.unusedSimpArgs false

/-- A valid table's rows, or none. -/
def Vx (L : List Rw) : Prop := Vr L ∨ L = []
theorem Vx.few {L : List Rw} (h : Vx L) : L.length ≤ 256 := by
  rcases h with h | rfl
  · exact h.few
  · exact Nat.zero_le _
theorem Vx.lo {L : List Rw} (h : Vx L) (n : Int) : ∀ i, i < af L n → rd L i ≤ n := by
  rcases h with h | rfl
  · exact fun i hi => h.af_lo n hi
  · intro i hi
    exact absurd hi (Nat.not_lt_zero _)
theorem Vx.at {L : List Rw} (h : Vx L) {j : Nat} (hj : j < L.length) : -25567 ≤ rd L j ∧ rd L j ≤ 2932896 ∧ 0 ≤ ro L j ∧ ro L j ≤ 1000 := by
  rcases h with h | rfl
  · exact ⟨(h.day j hj).1, (h.day j hj).2, (h.off j hj).1, (h.off j hj).2⟩
  · exact absurd hj (Nat.not_lt_zero _)
theorem Vx.bd {L : List Rw} (h : Vx L) (n : Int) : (nxK L n = 0 ∨ nxK L n = 1 ∨ nxK L n = -1) ∧ (lpN L n = 0 ∨ lpN L n = 1 ∨ lpN L n = -1) := by
  rcases h with h | rfl
  · exact ⟨h.nxK_bd n, h.lpN_bd n⟩
  · exact ⟨.inl (nxK_nil n), .inl (lpN_nil n)⟩
end Go.Proofs.YtiamggjebaabkaaGreatDoor

namespace Go.Proofs.YtiamggjebaabkaaGreatDoor
open Go.RowKit
set_option linter.unusedVariables false
set_option linter.unusedSimpArgs false

/-- What Row answers. -/
def rwB (L : List Rw) (i : Int) : Bool := decide (0 ≤ i ∧ i < L.length)
def rwD (L : List Rw) (i : Int) : Int := if 0 ≤ i ∧ i < L.length then rd L i.toNat else 0
def rwO (L : List Rw) (i : Int) : Int := if 0 ≤ i ∧ i < L.length then ro L i.toNat else 0
set_option maxHeartbeats 2000000 in
theorem row_any {lo : Nat} {w : World} {v : Value} {L : List Rw} {u e : Int} (i : Int) (h : Tv lo w v L u e) :
    Calls Tryz.prog 28 #[v, .int .i64 i] w fun x w' => x = .returned (.tuple #[.agg #[.int .i64 (rwD L i), .int .i64 (rwO L i)], .bool (rwB L i)]) ∧ Below w.heap.size w w' := by
  obtain ⟨W0, hW0⟩ : ∃ W0, W0 = w.alloc (.cells #[.int .i64 0, .int .i64 0] 70) := ⟨_, rfl⟩
  have b0 : Below w.heap.size w W0 := by rw [hW0]; exact bel_box w _
  have h0 : W0.heap[w.heap.size]? = some (.cells #[.int .i64 0, .int .i64 0] 70 (0, 0)) := by rw [hW0]; exact heap_alloc_new w _
  obtain ⟨A, c, r, -, -, ha⟩ := (h.below b0).all
  have c0 : W0.cell? ⟨w.heap.size, 0, none⟩ = some (.int .i64 0) := bk_cell h0 0
  have c1 : W0.cell? ⟨w.heap.size, 1, none⟩ = some (.int .i64 0) := bk_cell h0 1
  have f0 : W0.frozen? ⟨w.heap.size, 0, none⟩ = false := bk_free h0 0
  have f1 : W0.frozen? ⟨w.heap.size, 1, none⟩ = false := bk_free h0 1
  have B0 := Lib.hid b0; have HA := Lib.hid ha; have H0 := Lib.hid h0
  have hB : ∀ x y, Below w.heap.size w ((W0.setCell ⟨w.heap.size, 0, none⟩ x).setCell ⟨w.heap.size, 1, none⟩ y) := fun x y => (b0.setCell (Nat.le_refl _) _).setCell (Nat.le_refl _) _
  have hL : ∀ x y, ((W0.setCell ⟨w.heap.size, 0, none⟩ x).setCell ⟨w.heap.size, 1, none⟩ y).heap[w.heap.size]? = some (.cells #[x, y] 70 (0, 0)) := fun x y => bk_set (bk_set h0 0 _) 1 _
  have HB := Lib.hid hB; have HL := Lib.hid hL
  clear b0 h0 ha h hB hL
  unfold rwB rwD rwO
  by_cases h1 : 0 ≤ i
  · obtain ⟨k, rfl⟩ : ∃ k : Nat, i = k := ⟨i.toNat, by omega⟩
    have z0 : ¬ (k : Int) < 0 := by omega
    by_cases h2 : k < L.length
    · have hz : ¬ (k : Int) ≥ (L.length : Int) := by omega
      have hz2 : (k : Int) < (L.length : Int) := by omega
      rw [if_pos ⟨h1, by omega⟩, if_pos ⟨h1, by omega⟩, decide_eq_true ⟨h1, by omega⟩, show ((k : Int)).toNat = k by omega]
      obtain ⟨b, off, rfl, -, hb2, hc⟩ := r.pos (by omega)
      obtain ⟨d0, d1⟩ := hc k h2
      clear hc r
      generalize L.length = N at *
      go_enter Tryz.func28, Tryz.ntmps28
      go_upto_region 1 with fail
      rw [← hW0]
      clear hW0
      go_wp2_with (go_at_call 54; refine HA.out.mono ?_; rintro e w' ⟨rfl, rfl⟩)
      have r0 := bk_cell (HL.out (.int .i64 (rd L k)) (.int .i64 (ro L k))) 0
      have r1 := bk_cell (HL.out (.int .i64 (rd L k)) (.int .i64 (ro L k))) 1
      refine bodyPost_ret (v := .tuple #[.agg #[.int .i64 (rd L k), .int .i64 (ro L k)], .bool true]) (by simp [results, Tryz.results28, go_sem, r0, r1]) rfl ⟨rfl, HB.out _ _⟩
    · have hz : (k : Int) ≥ (L.length : Int) := by omega
      rw [if_neg (by omega), if_neg (by omega), decide_eq_false (by omega)]
      clear r
      generalize L.length = N at *
      go_enter Tryz.func28, Tryz.ntmps28
      go_upto_region 1 with fail
      rw [← hW0]
      clear hW0
      go_wp2_with (go_at_call 54; refine HA.out.mono ?_; rintro e w' ⟨rfl, rfl⟩)
      have r0 := bk_cell (HL.out (.int .i64 0) (.int .i64 0)) 0
      have r1 := bk_cell (HL.out (.int .i64 0) (.int .i64 0)) 1
      refine bodyPost_ret (v := .tuple #[.agg #[.int .i64 0, .int .i64 0], .bool false]) (by simp [results, Tryz.results28, go_sem, r0, r1]) rfl ⟨rfl, HB.out _ _⟩
  · have z0 : i < 0 := by omega
    rw [if_neg (by omega), if_neg (by omega), decide_eq_false (by omega)]
    clear r
    generalize L.length = N at *
    go_enter Tryz.func28, Tryz.ntmps28
    go_upto_region 1 with fail
    rw [← hW0]
    clear hW0
    go_wp2_with (go_at_call 54; refine HA.out.mono ?_; rintro e w' ⟨rfl, rfl⟩)
    have r0 := bk_cell (HL.out (.int .i64 0) (.int .i64 0)) 0
    have r1 := bk_cell (HL.out (.int .i64 0) (.int .i64 0)) 1
    refine bodyPost_ret (v := .tuple #[.agg #[.int .i64 0, .int .i64 0], .bool false]) (by simp [results, Tryz.results28, go_sem, r0, r1]) rfl ⟨rfl, HB.out _ _⟩

end Go.Proofs.YtiamggjebaabkaaGreatDoor
