/- Merged: ListAI, ListAJ, ListAR, LeapD, LeapE, LeapG. -/
import Derived.Test.YtiamggjebaabkaaGreatDoorGListPuts41
import Derived.Test.YtiamggjebaabkaaGreatDoorGListPuts42
import Derived.Test.YtiamggjebaabkaaGreatDoorGListPuts40
import Derived.Test.YtiamggjebaabkaaGreatDoorGListPuts33
import Derived.Test.YtiamggjebaabkaaGreatDoorGListPuts32
namespace Go.Proofs.YtiamggjebaabkaaGreatDoor
open Go.RowKit Go.WideShapes Go.ChangeShapes
set_option linter.unusedVariables false
set_option linter.unusedSimpArgs false

/-- What read hands on: the four cells of a list, a number, an error. -/
def ReA (R : Option Addr → Option Addr → Option Addr → Nat → Nat → Option Addr → Int → Value → World → Prop) (w : World) (x : Ending) (w' : World) : Prop :=
  ∃ pu pe A m c pd n er, x = .returned (.tuple #[.agg #[.pointer pu, .pointer pe, .slice A m c, .pointer pd], .int .i64 n, er]) ∧ R pu pe A m c pd n er w' ∧ Below w.heap.size w w'
set_option maxRecDepth 100000 in
set_option maxHeartbeats 2000000 in
theorem parse_err (t : ByteArray) (k : Int) (hk : k ≠ 0) (w : World) (h : Calls Tryz.prog 29 #[.string t] w (ReA (fun _ _ _ _ _ _ _ er _ => er = ev k) w)) :
    Calls Tryz.prog 8 #[.string t] w fun x w' => x = .returned (.tuple #[.pointer none, ev k]) ∧ Below w.heap.size w w' := by
  have H := Lib.hid h
  have q0 := fun op t W x => guard_ev op t W x k
  have q2 := fun W => neq_ev W k
  have hkb : (k != 0) = true := bne_iff_ne.mpr hk
  clear h
  go_enter Tryz.func8, Tryz.ntmps8
  go_wp2_with (go_at_call 29; refine H.out.mono ?_; rintro x w1 ⟨pu, pe, A, m, c, pd, n, er, rfl, rfl, hb⟩; have B1 := Lib.hid hb; clear hb)
  go_ret2
  exact ⟨rfl, B1.out.alloc B1.out.size _⟩
set_option maxRecDepth 100000 in
set_option maxHeartbeats 2000000 in
theorem parse_ok {R : Option Addr → Option Addr → Option Addr → Nat → Nat → Option Addr → World → Prop} {S : Value → Value → World → Prop} (t : ByteArray) (w : World) (h : Calls Tryz.prog 29 #[.string t] w (ReA (fun pu pe A m c pd _ er w' => er = .nilIface ∧ R pu pe A m c pd w') w))
    (hs : ∀ pu pe A m c pd W W', R pu pe A m c pd W → Below W.heap.size W W' → R pu pe A m c pd W')
    (ht : ∀ pu pe A m c pd W, R pu pe A m c pd W → Below w.heap.size w W → Calls Tryz.prog 30 #[.agg #[.pointer pu, .pointer pe, .slice A m c, .pointer pd]] W fun x w' => (∃ v er, x = .returned (.tuple #[v, er]) ∧ S v er w') ∧ Below W.heap.size W w') :
    Calls Tryz.prog 8 #[.string t] w fun x w' => (∃ v er, x = .returned (.tuple #[v, er]) ∧ S v er w') ∧ Below w.heap.size w w' := by
  have H := Lib.hid h; have HS := Lib.hid hs; have HT := Lib.hid ht
  clear h hs ht
  go_enter Tryz.func8, Tryz.ntmps8
  go_upto_region 2 with (go_at_call 29; refine H.out.mono ?_; rintro x w1 ⟨pu, pe, A, m, c, pd, n, er, rfl, ⟨rfl, hR⟩, hb⟩; have B1 := Lib.hid hb; have HR := Lib.hid hR; clear hR hb)
  have hw2 : Below w1.heap.size w1 (w1.alloc (.cells #[.pointer pu, .pointer pe, .slice A m c, .pointer pd] 76)) := (Below.refl _ w1).alloc (Nat.le_refl _) _
  have h2 := heap_alloc_new w1 (.cells #[.pointer pu, .pointer pe, .slice A m c, .pointer pd] 76)
  obtain ⟨W2, hW2⟩ : ∃ W2, W2 = w1.alloc (.cells #[.pointer pu, .pointer pe, .slice A m c, .pointer pd] 76) := ⟨_, rfl⟩
  rw [← hW2] at hw2 h2 ⊢
  have c0 : W2.cell? ⟨w1.heap.size, 0, none⟩ = some (.pointer pu) := bk_cell h2 0
  have c1 : W2.cell? ⟨w1.heap.size, 1, none⟩ = some (.pointer pe) := bk_cell h2 1
  have c2 : W2.cell? ⟨w1.heap.size, 2, none⟩ = some (.slice A m c) := bk_cell h2 2
  have c3 : W2.cell? ⟨w1.heap.size, 3, none⟩ = some (.pointer pd) := bk_cell h2 3
  have R2 := Lib.hid (HS.out _ _ _ _ _ _ _ _ HR.out hw2)
  have B2 := Lib.hid (B1.out.trans (hw2.mono B1.out.size))
  clear hW2 hw2 h2
  go_wp2_with (go_at_call 30; refine (HT.out _ _ _ _ _ _ _ R2.out B2.out).mono ?_; rintro x w3 ⟨⟨v, er, rfl, hS⟩, hb⟩; have S3 := Lib.hid hS; have B3 := Lib.hid (B2.out.trans (hb.mono B2.out.size)); clear hS hb)
  go_ret2
  exact ⟨⟨_, _, rfl, S3.out⟩, B3.out⟩

end Go.Proofs.YtiamggjebaabkaaGreatDoor

namespace Go.Proofs.YtiamggjebaabkaaGreatDoor
open Go.RowKit Go.WideShapes Go.ChangeShapes
set_option linter.unusedVariables false
set_option linter.unusedSimpArgs false

/-- What table answers of what has been read. -/
def TaA (r : Rd11) (v er : Value) (w' : World) : Prop :=
  ((r.m = 0 ∨ r.h = 0) ∧ v = .pointer none ∧ er = ev 2) ∨
  (0 < r.m ∧ 0 < r.h ∧ lkE r.L r.u r.e ≠ 0 ∧ v = .pointer none ∧ er = ev (lkE r.L r.u r.e)) ∨
  (0 < r.m ∧ 0 < r.h ∧ lkE r.L r.u r.e = 0 ∧ (∃ S, X5 r S ∧ 0 < r.s ∧ byt S ≠ byt (dig (dgT r.L r.u r.e))) ∧ v = .pointer none ∧ er = ev 7) ∨
  (0 < r.m ∧ 0 < r.h ∧ lkE r.L r.u r.e = 0 ∧ (r.s = 0 ∨ ∃ S, X5 r S ∧ 0 < r.s ∧ byt S = byt (dig (dgT r.L r.u r.e))) ∧ ∃ g, v = .pointer (some ⟨g, 0, none⟩) ∧ er = ev 0 ∧ Tb 0 w' g r.L r.u r.e)
theorem table_lv {r : Rd11} {cs : Array Value} {W : World} (h : Lv W r cs) (he : Ends W) (ht : Tab W) (hp : Eps W) (hs : Start W) (hn : r.L.length ≤ 100000) :
    Calls Tryz.prog 30 #[.agg cs] W fun x w' => (∃ v er, x = .returned (.tuple #[v, er]) ∧ TaA r v er w') ∧ Below W.heap.size W w' := by
  obtain ⟨pu, pe, pd, A, c, S, rfl, h1, h2, ⟨h3, h4, h5, h6⟩, h7, h8⟩ := h
  rcases h1 with ⟨m0, rfl⟩ | ⟨m0, a, rfl, -, ha⟩
  · exact (table_no none pe pd A _ c W (.inl rfl)).mono fun x w' ⟨k1, k2⟩ => ⟨⟨_, _, k1, .inl ⟨.inl m0, rfl, rfl⟩⟩, k2⟩
  rcases h2 with ⟨e0, rfl⟩ | ⟨e0, b, rfl, -, hb⟩
  · exact (table_no _ none pd A _ c W (.inr rfl)).mono fun x w' ⟨k1, k2⟩ => ⟨⟨_, _, k1, .inl ⟨.inr e0, rfl, rfl⟩⟩, k2⟩
  by_cases hk : lkE r.L r.u r.e = 0
  · rcases h7 with ⟨s0, rfl⟩ | ⟨s0, d, rfl, -, hd⟩
    · exact (table_right a b A c r.L r.u r.e W ha hb h3 h4 h5 h6 he ht hp hs hk).mono fun x w' ⟨g, k1, k2, k3⟩ => ⟨⟨_, _, k1, .inr (.inr (.inr ⟨m0, e0, hk, .inl s0, g, rfl, rfl, k2.le (Nat.zero_le _)⟩))⟩, k3⟩
    · refine (table_sum a b d (byt S) (byt_len _) A c r.L r.u r.e W ha hb hd h3 h4 h5 h6 he ht hp hs hk).mono fun x w' ⟨k1, k3⟩ => ?_
      rcases k1 with ⟨k1, g, k2, k4⟩ | ⟨k1, k2⟩
      · exact ⟨⟨_, _, k2, .inr (.inr (.inr ⟨m0, e0, hk, .inr ⟨S, h8, s0, k1⟩, g, rfl, rfl, k4.le (Nat.zero_le _)⟩))⟩, k3⟩
      · exact ⟨⟨_, _, k2, .inr (.inr (.inl ⟨m0, e0, hk, ⟨S, h8, s0, k1⟩, rfl, rfl⟩))⟩, k3⟩
  · exact (table_wrong a b pd A c r.L r.u r.e W ha hb h3 h5 h6 he hn hk).mono fun x w' ⟨k1, k2⟩ => ⟨⟨_, _, k1, .inr (.inl ⟨m0, e0, hk, rfl, rfl⟩)⟩, k2⟩

theorem parse11_bad (t : ByteArray) (w : World) (he : Eps w) (hg : GE w) (ht : t.size ≤ 65535) (K : Nat) (hK : K < (spR 10 t.data.toList).length) (h1 : alG (spR 10 t.data.toList) K) (h2 : on11 (alR (spR 10 t.data.toList) K) ((spR 10 t.data.toList).getD K []) ≠ 0) :
    Calls Tryz.prog 8 #[.string t] w fun x w' => x = .returned (.tuple #[.pointer none, ev (on11 (alR (spR 10 t.data.toList) K) ((spR 10 t.data.toList).getD K []))]) ∧ Below w.heap.size w w' := by
  have hr := lread_any t w he hg ht
  generalize spR 10 t.data.toList = ls at *
  refine parse_err t _ h2 w (hr.mono fun x w' hx => ?_)
  rcases hx with ⟨⟨cs, k1, k2, k3⟩ | ⟨J, k1, k2, k3, k4⟩, hb⟩
  · exact absurd (k2 K hK) h2
  · have e : J = K := by
      rcases Nat.lt_trichotomy J K with c | c | c
      · exact absurd (h1 J c) k3
      · exact c
      · exact absurd (k2 K c) h2
    subst e
    exact ⟨_, _, _, _, _, _, _, _, k4, rfl, hb⟩
theorem parse11_good (t : ByteArray) (w : World) (he : Eps w) (hg : GE w) (ht : t.size ≤ 65535) (hd : Ends w) (hb : Tab w) (hs : Start w) (h1 : alG (spR 10 t.data.toList) (spR 10 t.data.toList).length) :
    Calls Tryz.prog 8 #[.string t] w fun x w' => (∃ v er, x = .returned (.tuple #[v, er]) ∧ TaA (alR (spR 10 t.data.toList) (spR 10 t.data.toList).length) v er w') ∧ Below w.heap.size w w' := by
  have hr := lread_any t w he hg ht
  have hn := (spR_len 10 t.data.toList).1
  have hz : t.data.toList.length = t.size := by rw [Array.length_toList]; rfl
  generalize spR 10 t.data.toList = ls at *
  have hL : (alR ls ls.length).L.length ≤ 100000 := by have := (al_bd ls ls.length).1; omega
  refine parse_ok (R := fun pu pe A m c pd W => Lv W (alR ls ls.length) #[.pointer pu, .pointer pe, .slice A m c, .pointer pd]) t w (hr.mono fun x w' hx => ?_) (fun pu pe A m c pd W W' h hb => h.below hb)
    (fun pu pe A m c pd W h hbw => table_lv h (hd.below hbw) (hb.below hbw) (he.below hbw) (hs.below hbw) hL)
  rcases hx with ⟨⟨cs, k1, k2, k3⟩ | ⟨J, k1, k2, k3, k4⟩, hb'⟩
  · have k3' := k3
    obtain ⟨pu, pe, pd, A, c, S, rfl, -⟩ := k3'
    exact ⟨_, _, _, _, _, _, _, _, k1, ⟨rfl, k3⟩, hb'⟩
  · exact absurd (h1 J k1) k3
theorem parse11_long (t : ByteArray) (w : World) (ht : ¬ t.size ≤ 65535) :
    Calls Tryz.prog 8 #[.string t] w fun x w' => x = .returned (.tuple #[.pointer none, ev 3]) ∧ Below w.heap.size w w' :=
  parse_err t 3 (by decide) w ((read_long t w ht).mono fun x w' ⟨k1, k2⟩ => ⟨_, _, _, _, _, _, _, _, k1, rfl, k2⟩)
end Go.Proofs.YtiamggjebaabkaaGreatDoor

namespace Go.Proofs.YtiamggjebaabkaaGreatDoor
open Go.RowKit
set_option linter.unusedVariables false

/-- What is read of lines: an error's number, and what was read. -/
def go11 : List (List UInt8) → Rd11 → Int × Rd11
  | [], r => (0, r)
  | x :: xs, r => if on11 r x = 0 then go11 xs (nx11 r x) else (on11 r x, r)
theorem go_two : ∀ (ls : List (List UInt8)) (r : Rd11),
    ((∀ j, j < ls.length → on11 ((ls.take j).foldl nx11 r) (ls.getD j []) = 0) ∧ go11 ls r = (0, ls.foldl nx11 r)) ∨
    ∃ K, K < ls.length ∧ (∀ j, j < K → on11 ((ls.take j).foldl nx11 r) (ls.getD j []) = 0) ∧ on11 ((ls.take K).foldl nx11 r) (ls.getD K []) ≠ 0 ∧ go11 ls r = (on11 ((ls.take K).foldl nx11 r) (ls.getD K []), (ls.take K).foldl nx11 r)
  | [], r => .inl ⟨fun j hj => absurd hj (Nat.not_lt_zero _), rfl⟩
  | x :: xs, r => by
    by_cases h : on11 r x = 0
    · rcases go_two xs (nx11 r x) with ⟨h1, h2⟩ | ⟨K, h1, h2, h3, h4⟩
      · refine .inl ⟨fun j hj => ?_, ?_⟩
        · cases j with
          | zero => exact h
          | succ j => exact h1 j (by simpa using hj)
        · rw [go11, if_pos h]; exact h2
      · refine .inr ⟨K + 1, by simpa using h1, fun j hj => ?_, h3, ?_⟩
        · cases j with
          | zero => exact h
          | succ j => exact h2 j (by omega)
        · rw [go11, if_pos h]; exact h4
    · refine .inr ⟨0, by simp, fun j hj => absurd hj (Nat.not_lt_zero _), h, ?_⟩
      rw [go11, if_neg h]; rfl
theorem go_is (ls : List (List UInt8)) : (alG ls ls.length ∧ go11 ls zr11 = (0, alR ls ls.length)) ∨
    ∃ K, K < ls.length ∧ alG ls K ∧ on11 (alR ls K) (ls.getD K []) ≠ 0 ∧ go11 ls zr11 = (on11 (alR ls K) (ls.getD K []), alR ls K) := by
  rcases go_two ls zr11 with ⟨h1, h2⟩ | ⟨K, h1, h2, h3, h4⟩
  · refine .inl ⟨fun j hj => ?_, ?_⟩
    · rw [alR_fold ls j (by omega)]; exact h1 j hj
    · rw [alR_fold ls _ (Nat.le_refl _), List.take_length]; exact h2
  · refine .inr ⟨K, h1, fun j hj => ?_, ?_, ?_⟩
    · rw [alR_fold ls j (by omega)]; exact h2 j hj
    · rw [alR_fold ls K (by omega)]; exact h3
    · rw [alR_fold ls K (by omega)]; exact h4
theorem go_app (z : List (List UInt8)) : ∀ (ls : List (List UInt8)) (r : Rd11), go11 (ls ++ z) r = if (go11 ls r).1 = 0 then go11 z (go11 ls r).2 else go11 ls r
  | [], r => by rw [List.nil_append, go11]; simp
  | x :: xs, r => by
    rw [List.cons_append, go11, go11]
    by_cases h : on11 r x = 0
    · rw [if_pos h, if_pos h, go_app z xs]
    · rw [if_neg h, if_neg h]; simp [h]
/-- A line that changes nothing. -/
def nul11 (x : List UInt8) : Prop := ∀ r, on11 r x = 0 ∧ nx11 r x = r
theorem nul_gap {x : List UInt8} (h : wdL x = []) : nul11 x := fun r => ⟨by unfold on11; rw [if_pos h], by unfold nx11; rw [if_pos h]⟩
theorem nul_nil : nul11 [] := nul_gap (by decide)
theorem go_nul {x : List UInt8} (h : nul11 x) (z : List (List UInt8)) (r : Rd11) : go11 (x :: z) r = go11 z r := by
  rw [go11, if_pos (h r).1, (h r).2]
theorem go_sp (l : List UInt8) : go11 (spR 10 l) zr11 = go11 (lnL l) zr11 := by
  rcases ln_sp l with h | h
  · rw [h]
  · rw [h, go_app, go_nul nul_nil]
    by_cases c : (go11 (lnL l) zr11).1 = 0
    · rw [if_pos c, go11]; exact Prod.ext c.symm rfl
    · rw [if_neg c]

/-- Words of four bytes are what their bytes are. -/
theorem be4_inj {x y : BitVec 32} (h : be 4 x.toNat = be 4 y.toNat) : x = y := by rw [← word_back x, ← word_back y, h]
theorem byt_inj {S T : St} (h : byt S = byt T) : S = T := by
  unfold byt at h
  obtain ⟨h1, h⟩ := List.append_inj h (by rw [be_len, be_len])
  obtain ⟨h2, h⟩ := List.append_inj h (by rw [be_len, be_len])
  obtain ⟨h3, h⟩ := List.append_inj h (by rw [be_len, be_len])
  obtain ⟨h4, h5⟩ := List.append_inj h (by rw [be_len, be_len])
  have e1 := be4_inj h1; have e2 := be4_inj h2; have e3 := be4_inj h3; have e4 := be4_inj h4; have e5 := be4_inj h5
  cases S; cases T
  simp only at e1 e2 e3 e4 e5
  rw [e1, e2, e3, e4, e5]
/-- The digest's words are these numbers. -/
def sm11 (r : Rd11) (T : St) : Prop := (T.a.toNat : Int) = r.x0 ∧ (T.b.toNat : Int) = r.x1 ∧ (T.c.toNat : Int) = r.x2 ∧ (T.d.toNat : Int) = r.x3 ∧ (T.e.toNat : Int) = r.x4
instance (r : Rd11) (T : St) : Decidable (sm11 r T) := by unfold sm11; infer_instance
theorem x5_sm {r : Rd11} {S T : St} (h : X5 r S) (hs : 0 < r.s) : byt S = byt T ↔ sm11 r T := by
  obtain ⟨h0, h1, h2, h3, h4⟩ := h hs
  constructor
  · intro e
    have e := byt_inj e
    subst e
    exact ⟨h0.symm, h1.symm, h2.symm, h3.symm, h4.symm⟩
  · rintro ⟨k0, k1, k2, k3, k4⟩
    have e : S = T := by
      have e0 : S.a = T.a := BitVec.eq_of_toNat_eq (by omega)
      have e1 : S.b = T.b := BitVec.eq_of_toNat_eq (by omega)
      have e2 : S.c = T.c := BitVec.eq_of_toNat_eq (by omega)
      have e3 : S.d = T.d := BitVec.eq_of_toNat_eq (by omega)
      have e4 : S.e = T.e := BitVec.eq_of_toNat_eq (by omega)
      cases S; cases T
      simp only at e0 e1 e2 e3 e4
      rw [e0, e1, e2, e3, e4]
    rw [e]
/-- A right text's table's error. -/
noncomputable def paE11 (r : Rd11) : Int :=
  if r.m = 0 ∨ r.h = 0 then 2 else if lkE r.L r.u r.e = 0 then (if 0 < r.s ∧ ¬ sm11 r (dig (dgT r.L r.u r.e)) then 7 else 0) else lkE r.L r.u r.e
theorem ta_pa {r : Rd11} {v er : Value} {w : World} (h : TaA r v er w) (hm : 0 ≤ r.m) (hh : 0 ≤ r.h) :
    er = ev (paE11 r) ∧ (paE11 r ≠ 0 → v = .pointer none) ∧ (paE11 r = 0 → ∃ g, v = .pointer (some ⟨g, 0, none⟩) ∧ Tb 0 w g r.L r.u r.e) := by
  unfold paE11
  rcases h with ⟨c, rfl, rfl⟩ | ⟨m0, h0, k, rfl, rfl⟩ | ⟨m0, h0, k, ⟨S, x5, s0, hb⟩, rfl, rfl⟩ | ⟨m0, h0, k, hs, g, rfl, rfl, ht⟩
  · rw [if_pos c]
    exact ⟨rfl, fun _ => rfl, fun h => by cases h⟩
  · rw [if_neg (by omega), if_neg k]
    exact ⟨rfl, fun _ => rfl, fun h => absurd h k⟩
  · rw [if_neg (by omega), if_pos k, if_pos ⟨s0, fun q => hb ((x5_sm x5 s0).2 q)⟩]
    exact ⟨rfl, fun _ => rfl, fun h => by cases h⟩
  · have q : ¬ (0 < r.s ∧ ¬ sm11 r (dig (dgT r.L r.u r.e))) := by
      rintro ⟨s0, n⟩
      rcases hs with s1 | ⟨S, x5, _, hb⟩
      · omega
      · exact n ((x5_sm x5 s0).1 hb)
    rw [if_neg (by omega), if_pos k, if_neg q]
    exact ⟨rfl, fun h => absurd rfl h, fun _ => ⟨g, rfl, ht⟩⟩
/-- A text's error, and what was read of it. -/
def rg11 (l : List UInt8) : Rd11 := (go11 (lnL l) zr11).2
noncomputable def pE11 (l : List UInt8) : Int := if (go11 (lnL l) zr11).1 = 0 then paE11 (rg11 l) else (go11 (lnL l) zr11).1
/-- The same, when a text is too long. -/
noncomputable def pZ11 (l : List UInt8) : Int := if l.length ≤ 65535 then pE11 l else 3
theorem parse11_all (t : ByteArray) (w : World) (he : Eps w) (hg : GE w) (hd : Ends w) (hb : Tab w) (hs : Start w) :
    Calls Tryz.prog 8 #[.string t] w fun x w' => ∃ v, x = .returned (.tuple #[v, ev (pZ11 t.data.toList)]) ∧ (pZ11 t.data.toList ≠ 0 → v = .pointer none) ∧
      (pZ11 t.data.toList = 0 → ∃ g, v = .pointer (some ⟨g, 0, none⟩) ∧ Tb 0 w' g (rg11 t.data.toList).L (rg11 t.data.toList).u (rg11 t.data.toList).e) ∧ Below w.heap.size w w' := by
  have hz : t.data.toList.length = t.size := by rw [Array.length_toList]; rfl
  unfold pZ11
  rw [hz]
  by_cases ht : t.size ≤ 65535
  · rw [if_pos ht]
    rcases go_is (spR 10 t.data.toList) with ⟨h1, h2⟩ | ⟨K, h1, h2, h3, h4⟩
    · have h := parse11_good t w he hg ht hd hb hs h1
      rw [go_sp] at h2
      have bd := al_bd (spR 10 t.data.toList) (spR 10 t.data.toList).length
      unfold pE11 rg11
      rw [h2, if_pos rfl]
      dsimp only
      refine h.mono fun x w' ⟨⟨v, er, k1, k2⟩, k3⟩ => ?_
      obtain ⟨p1, p2, p3⟩ := ta_pa k2 bd.2.1 bd.2.2.2.1
      subst p1
      exact ⟨v, k1, p2, p3, k3⟩
    · have h := parse11_bad t w he hg ht K h1 h2 h3
      rw [go_sp] at h4
      unfold pE11
      rw [h4, if_neg h3]
      dsimp only
      exact h.mono fun x w' ⟨k1, k2⟩ => ⟨_, k1, fun _ => rfl, fun h => absurd h h3, k2⟩
  · rw [if_neg ht]
    exact (parse11_long t w ht).mono fun x w' ⟨k1, k2⟩ => ⟨_, k1, fun _ => rfl, fun h => absurd h (by decide), k2⟩

end Go.Proofs.YtiamggjebaabkaaGreatDoor

namespace Go.Proofs.YtiamggjebaabkaaGreatDoor
open Go.RowKit
set_option linter.unusedVariables false
set_option linter.unusedSimpArgs false

/-- A valid table's rows, or none. -/
def Vx (L : List Rw) : Prop := Vr L ∨ L = []
theorem Vx.few {L : List Rw} (h : Vx L) : L.length ≤ 256 := by
  rcases h with h | rfl
  · exact h.few
  · exact Nat.zero_le _
theorem Vx.lo {L : List Rw} (h : Vx L) (n : Int) : ∀ i, i < af L n → rd L i ≤ n := by
  rcases h with h | rfl
  · exact fun i hi => h.af_lo n hi
  · intro i hi
    exact absurd hi (Nat.not_lt_zero _)
theorem Vx.at {L : List Rw} (h : Vx L) {j : Nat} (hj : j < L.length) : -25567 ≤ rd L j ∧ rd L j ≤ 2932896 ∧ 0 ≤ ro L j ∧ ro L j ≤ 1000 := by
  rcases h with h | rfl
  · exact ⟨(h.day j hj).1, (h.day j hj).2, (h.off j hj).1, (h.off j hj).2⟩
  · exact absurd hj (Nat.not_lt_zero _)
theorem Vx.bd {L : List Rw} (h : Vx L) (n : Int) : (nxK L n = 0 ∨ nxK L n = 1 ∨ nxK L n = -1) ∧ (lpN L n = 0 ∨ lpN L n = 1 ∨ lpN L n = -1) := by
  rcases h with h | rfl
  · exact ⟨h.nxK_bd n, h.lpN_bd n⟩
  · exact ⟨.inl (nxK_nil n), .inl (lpN_nil n)⟩
end Go.Proofs.YtiamggjebaabkaaGreatDoor

namespace Go.Proofs.YtiamggjebaabkaaGreatDoor
open Go.RowKit
set_option linter.unusedVariables false
set_option linter.unusedSimpArgs false

/-- What Row answers. -/
def rwB (L : List Rw) (i : Int) : Bool := decide (0 ≤ i ∧ i < L.length)
def rwD (L : List Rw) (i : Int) : Int := if 0 ≤ i ∧ i < L.length then rd L i.toNat else 0
def rwO (L : List Rw) (i : Int) : Int := if 0 ≤ i ∧ i < L.length then ro L i.toNat else 0
set_option maxHeartbeats 2000000 in
theorem row_any {lo : Nat} {w : World} {v : Value} {L : List Rw} {u e : Int} (i : Int) (h : Tv lo w v L u e) :
    Calls Tryz.prog 28 #[v, .int .i64 i] w fun x w' => x = .returned (.tuple #[.agg #[.int .i64 (rwD L i), .int .i64 (rwO L i)], .bool (rwB L i)]) ∧ Below w.heap.size w w' := by
  obtain ⟨W0, hW0⟩ : ∃ W0, W0 = w.alloc (.cells #[.int .i64 0, .int .i64 0] 70) := ⟨_, rfl⟩
  have b0 : Below w.heap.size w W0 := by rw [hW0]; exact bel_box w _
  have h0 : W0.heap[w.heap.size]? = some (.cells #[.int .i64 0, .int .i64 0] 70 (0, 0)) := by rw [hW0]; exact heap_alloc_new w _
  obtain ⟨A, c, r, -, -, ha⟩ := (h.below b0).all
  have c0 : W0.cell? ⟨w.heap.size, 0, none⟩ = some (.int .i64 0) := bk_cell h0 0
  have c1 : W0.cell? ⟨w.heap.size, 1, none⟩ = some (.int .i64 0) := bk_cell h0 1
  have f0 : W0.frozen? ⟨w.heap.size, 0, none⟩ = false := bk_free h0 0
  have f1 : W0.frozen? ⟨w.heap.size, 1, none⟩ = false := bk_free h0 1
  have B0 := Lib.hid b0; have HA := Lib.hid ha; have H0 := Lib.hid h0
  have hB : ∀ x y, Below w.heap.size w ((W0.setCell ⟨w.heap.size, 0, none⟩ x).setCell ⟨w.heap.size, 1, none⟩ y) := fun x y => (b0.setCell (Nat.le_refl _) _).setCell (Nat.le_refl _) _
  have hL : ∀ x y, ((W0.setCell ⟨w.heap.size, 0, none⟩ x).setCell ⟨w.heap.size, 1, none⟩ y).heap[w.heap.size]? = some (.cells #[x, y] 70 (0, 0)) := fun x y => bk_set (bk_set h0 0 _) 1 _
  have HB := Lib.hid hB; have HL := Lib.hid hL
  clear b0 h0 ha h hB hL
  unfold rwB rwD rwO
  by_cases h1 : 0 ≤ i
  · obtain ⟨k, rfl⟩ : ∃ k : Nat, i = k := ⟨i.toNat, by omega⟩
    have z0 : ¬ (k : Int) < 0 := by omega
    by_cases h2 : k < L.length
    · have hz : ¬ (k : Int) ≥ (L.length : Int) := by omega
      have hz2 : (k : Int) < (L.length : Int) := by omega
      rw [if_pos ⟨h1, by omega⟩, if_pos ⟨h1, by omega⟩, decide_eq_true ⟨h1, by omega⟩, show ((k : Int)).toNat = k by omega]
      obtain ⟨b, off, rfl, -, hb2, hc⟩ := r.pos (by omega)
      obtain ⟨d0, d1⟩ := hc k h2
      clear hc r
      generalize L.length = N at *
      go_enter Tryz.func28, Tryz.ntmps28
      go_upto_region 1 with fail
      rw [← hW0]
      clear hW0
      go_wp2_with (go_at_call 54; refine HA.out.mono ?_; rintro e w' ⟨rfl, rfl⟩)
      have r0 := bk_cell (HL.out (.int .i64 (rd L k)) (.int .i64 (ro L k))) 0
      have r1 := bk_cell (HL.out (.int .i64 (rd L k)) (.int .i64 (ro L k))) 1
      refine bodyPost_ret (v := .tuple #[.agg #[.int .i64 (rd L k), .int .i64 (ro L k)], .bool true]) (by simp [results, Tryz.results28, go_sem, r0, r1]) rfl ⟨rfl, HB.out _ _⟩
    · have hz : (k : Int) ≥ (L.length : Int) := by omega
      rw [if_neg (by omega), if_neg (by omega), decide_eq_false (by omega)]
      clear r
      generalize L.length = N at *
      go_enter Tryz.func28, Tryz.ntmps28
      go_upto_region 1 with fail
      rw [← hW0]
      clear hW0
      go_wp2_with (go_at_call 54; refine HA.out.mono ?_; rintro e w' ⟨rfl, rfl⟩)
      have r0 := bk_cell (HL.out (.int .i64 0) (.int .i64 0)) 0
      have r1 := bk_cell (HL.out (.int .i64 0) (.int .i64 0)) 1
      refine bodyPost_ret (v := .tuple #[.agg #[.int .i64 0, .int .i64 0], .bool false]) (by simp [results, Tryz.results28, go_sem, r0, r1]) rfl ⟨rfl, HB.out _ _⟩
  · have z0 : i < 0 := by omega
    rw [if_neg (by omega), if_neg (by omega), decide_eq_false (by omega)]
    clear r
    generalize L.length = N at *
    go_enter Tryz.func28, Tryz.ntmps28
    go_upto_region 1 with fail
    rw [← hW0]
    clear hW0
    go_wp2_with (go_at_call 54; refine HA.out.mono ?_; rintro e w' ⟨rfl, rfl⟩)
    have r0 := bk_cell (HL.out (.int .i64 0) (.int .i64 0)) 0
    have r1 := bk_cell (HL.out (.int .i64 0) (.int .i64 0)) 1
    refine bodyPost_ret (v := .tuple #[.agg #[.int .i64 0, .int .i64 0], .bool false]) (by simp [results, Tryz.results28, go_sem, r0, r1]) rfl ⟨rfl, HB.out _ _⟩

end Go.Proofs.YtiamggjebaabkaaGreatDoor

namespace Go.Proofs.YtiamggjebaabkaaGreatDoor
open Go.RowKit
set_option linter.unusedVariables false
set_option linter.unusedSimpArgs false

theorem dbox (w : World) (A : Option Addr) (n c : Nat) (u e : Int) : ∃ W0, W0 = w.alloc (.cells #[.slice A n c, .int .i64 u, .int .i64 e] 30) ∧ Below w.heap.size w W0 ∧ W0.heap.size = w.heap.size + 1 ∧
    W0.cell? ⟨w.heap.size, 0, none⟩ = some (.slice A n c) ∧ W0.cell? ⟨w.heap.size, 1, none⟩ = some (.int .i64 u) ∧ W0.cell? ⟨w.heap.size, 2, none⟩ = some (.int .i64 e) := by
  have h := heap_alloc_new w (.cells #[.slice A n c, .int .i64 u, .int .i64 e] 30)
  exact ⟨_, rfl, bel_box w _, by simp, bk_cell h 0, bk_cell h 1, bk_cell h 2⟩

end Go.Proofs.YtiamggjebaabkaaGreatDoor
