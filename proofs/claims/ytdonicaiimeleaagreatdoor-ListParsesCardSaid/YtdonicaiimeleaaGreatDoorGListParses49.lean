/- Merged: ListAI, ListAJ, ListAR, LeapF, LeapH, LeapQ, LeapR. -/
import Derived.Test.YtdonicaiimeleaaGreatDoorGListParses47
import Derived.Test.YtdonicaiimeleaaGreatDoorGListParses48
import Derived.Test.YtdonicaiimeleaaGreatDoorGListParses46
import Derived.Test.YtdonicaiimeleaaGreatDoorGListParses19
import Derived.Test.YtdonicaiimeleaaGreatDoorGListParses20
import Derived.BigRegion
import Derived.Deep.RegionHeld3
namespace Go.Proofs.YtdonicaiimeleaaGreatDoor
open Go.RowKit Go.WideShapes Go.ChangeShapes
set_option linter.unusedVariables false
set_option linter.unusedSimpArgs false

/-- What read hands on: the four cells of a list, a number, an error. -/
def ReA (R : Option Addr → Option Addr → Option Addr → Nat → Nat → Option Addr → Int → Value → World → Prop) (w : World) (x : Ending) (w' : World) : Prop :=
  ∃ pu pe A m c pd n er, x = .returned (.tuple #[.agg #[.pointer pu, .pointer pe, .slice A m c, .pointer pd], .int .i64 n, er]) ∧ R pu pe A m c pd n er w' ∧ Below w.heap.size w w'
set_option maxRecDepth 100000 in
set_option maxHeartbeats 2000000 in
theorem fault_walk {R : Option Addr → Option Addr → Option Addr → Nat → Nat → Option Addr → Int → Value → World → Prop} (t : ByteArray) (w : World) (h : Calls Tryz.prog 12 #[.string t] w (ReA R w)) :
    Calls Tryz.prog 8 #[.string t] w fun x w' => ∃ n, x = .returned (.int .i64 n) ∧ (∃ pu pe A m c pd er w1, R pu pe A m c pd n er w1) ∧ Below w.heap.size w w' := by
  have H := Lib.hid h
  clear h
  go_enter Tryz.func8, Tryz.ntmps8
  go_wp2_with (go_at_call 12; refine H.out.mono ?_; rintro x w1 ⟨pu, pe, A, m, c, pd, n, er, rfl, hR, hb⟩; have HR := Lib.hid hR; have B1 := Lib.hid hb; clear hR hb)
  go_ret
  exact ⟨n, rfl, ⟨_, _, _, _, _, _, _, _, HR.out⟩, B1.out.alloc B1.out.size _⟩

set_option maxRecDepth 100000 in
set_option maxHeartbeats 2000000 in
theorem parse_err (t : ByteArray) (k : Int) (hk : k ≠ 0) (w : World) (h : Calls Tryz.prog 12 #[.string t] w (ReA (fun _ _ _ _ _ _ _ er _ => er = ev k) w)) :
    Calls Tryz.prog 5 #[.string t] w fun x w' => x = .returned (.tuple #[.pointer none, ev k]) ∧ Below w.heap.size w w' := by
  have H := Lib.hid h
  have q0 := fun op t W x => guard_ev op t W x k
  have q2 := fun W => neq_ev W k
  have hkb : (k != 0) = true := bne_iff_ne.mpr hk
  clear h
  go_enter Tryz.func5, Tryz.ntmps5
  go_wp2_with (go_at_call 12; refine H.out.mono ?_; rintro x w1 ⟨pu, pe, A, m, c, pd, n, er, rfl, rfl, hb⟩; have B1 := Lib.hid hb; clear hb)
  go_ret2
  exact ⟨rfl, B1.out.alloc B1.out.size _⟩
set_option maxRecDepth 100000 in
set_option maxHeartbeats 2000000 in
theorem parse_ok {R : Option Addr → Option Addr → Option Addr → Nat → Nat → Option Addr → World → Prop} {S : Value → Value → World → Prop} (t : ByteArray) (w : World) (h : Calls Tryz.prog 12 #[.string t] w (ReA (fun pu pe A m c pd _ er w' => er = .nilIface ∧ R pu pe A m c pd w') w))
    (hs : ∀ pu pe A m c pd W W', R pu pe A m c pd W → Below W.heap.size W W' → R pu pe A m c pd W')
    (ht : ∀ pu pe A m c pd W, R pu pe A m c pd W → Below w.heap.size w W → Calls Tryz.prog 13 #[.agg #[.pointer pu, .pointer pe, .slice A m c, .pointer pd]] W fun x w' => (∃ v er, x = .returned (.tuple #[v, er]) ∧ S v er w') ∧ Below W.heap.size W w') :
    Calls Tryz.prog 5 #[.string t] w fun x w' => (∃ v er, x = .returned (.tuple #[v, er]) ∧ S v er w') ∧ Below w.heap.size w w' := by
  have H := Lib.hid h; have HS := Lib.hid hs; have HT := Lib.hid ht
  clear h hs ht
  go_enter Tryz.func5, Tryz.ntmps5
  go_upto_region 2 with (go_at_call 12; refine H.out.mono ?_; rintro x w1 ⟨pu, pe, A, m, c, pd, n, er, rfl, ⟨rfl, hR⟩, hb⟩; have B1 := Lib.hid hb; have HR := Lib.hid hR; clear hR hb)
  have hw2 : Below w1.heap.size w1 (w1.alloc (.cells #[.pointer pu, .pointer pe, .slice A m c, .pointer pd] 50)) := (Below.refl _ w1).alloc (Nat.le_refl _) _
  have h2 := heap_alloc_new w1 (.cells #[.pointer pu, .pointer pe, .slice A m c, .pointer pd] 50)
  obtain ⟨W2, hW2⟩ : ∃ W2, W2 = w1.alloc (.cells #[.pointer pu, .pointer pe, .slice A m c, .pointer pd] 50) := ⟨_, rfl⟩
  rw [← hW2] at hw2 h2 ⊢
  have c0 : W2.cell? ⟨w1.heap.size, 0, none⟩ = some (.pointer pu) := bk_cell h2 0
  have c1 : W2.cell? ⟨w1.heap.size, 1, none⟩ = some (.pointer pe) := bk_cell h2 1
  have c2 : W2.cell? ⟨w1.heap.size, 2, none⟩ = some (.slice A m c) := bk_cell h2 2
  have c3 : W2.cell? ⟨w1.heap.size, 3, none⟩ = some (.pointer pd) := bk_cell h2 3
  have R2 := Lib.hid (HS.out _ _ _ _ _ _ _ _ HR.out hw2)
  have B2 := Lib.hid (B1.out.trans (hw2.mono B1.out.size))
  clear hW2 hw2 h2
  go_wp2_with (go_at_call 13; refine (HT.out _ _ _ _ _ _ _ R2.out B2.out).mono ?_; rintro x w3 ⟨⟨v, er, rfl, hS⟩, hb⟩; have S3 := Lib.hid hS; have B3 := Lib.hid (B2.out.trans (hb.mono B2.out.size)); clear hS hb)
  go_ret2
  exact ⟨⟨_, _, rfl, S3.out⟩, B3.out⟩

end Go.Proofs.YtdonicaiimeleaaGreatDoor

namespace Go.Proofs.YtdonicaiimeleaaGreatDoor
open Go.RowKit Go.WideShapes Go.ChangeShapes
set_option linter.unusedVariables false
set_option linter.unusedSimpArgs false

/-- What table answers of what has been read. -/
def TaA (r : Rd11) (v er : Value) (w' : World) : Prop :=
  ((r.m = 0 ∨ r.h = 0) ∧ v = .pointer none ∧ er = ev 2) ∨
  (0 < r.m ∧ 0 < r.h ∧ lkE r.L r.u r.e ≠ 0 ∧ v = .pointer none ∧ er = ev (lkE r.L r.u r.e)) ∨
  (0 < r.m ∧ 0 < r.h ∧ lkE r.L r.u r.e = 0 ∧ (∃ S, X5 r S ∧ 0 < r.s ∧ byt S ≠ byt (dig (dgT r.L r.u r.e))) ∧ v = .pointer none ∧ er = ev 7) ∨
  (0 < r.m ∧ 0 < r.h ∧ lkE r.L r.u r.e = 0 ∧ (r.s = 0 ∨ ∃ S, X5 r S ∧ 0 < r.s ∧ byt S = byt (dig (dgT r.L r.u r.e))) ∧ ∃ g, v = .pointer (some ⟨g, 0, none⟩) ∧ er = ev 0 ∧ Tb 0 w' g r.L r.u r.e)
theorem table_lv {r : Rd11} {cs : Array Value} {W : World} (h : Lv W r cs) (he : Ends W) (ht : Tab W) (hp : Eps W) (hs : Start W) (hn : r.L.length ≤ 100000) :
    Calls Tryz.prog 13 #[.agg cs] W fun x w' => (∃ v er, x = .returned (.tuple #[v, er]) ∧ TaA r v er w') ∧ Below W.heap.size W w' := by
  obtain ⟨pu, pe, pd, A, c, S, rfl, h1, h2, ⟨h3, h4, h5, h6⟩, h7, h8⟩ := h
  rcases h1 with ⟨m0, rfl⟩ | ⟨m0, a, rfl, -, ha⟩
  · exact (table_no none pe pd A _ c W (.inl rfl)).mono fun x w' ⟨k1, k2⟩ => ⟨⟨_, _, k1, .inl ⟨.inl m0, rfl, rfl⟩⟩, k2⟩
  rcases h2 with ⟨e0, rfl⟩ | ⟨e0, b, rfl, -, hb⟩
  · exact (table_no _ none pd A _ c W (.inr rfl)).mono fun x w' ⟨k1, k2⟩ => ⟨⟨_, _, k1, .inl ⟨.inr e0, rfl, rfl⟩⟩, k2⟩
  by_cases hk : lkE r.L r.u r.e = 0
  · rcases h7 with ⟨s0, rfl⟩ | ⟨s0, d, rfl, -, hd⟩
    · exact (table_right a b A c r.L r.u r.e W ha hb h3 h4 h5 h6 he ht hp hs hk).mono fun x w' ⟨g, k1, k2, k3⟩ => ⟨⟨_, _, k1, .inr (.inr (.inr ⟨m0, e0, hk, .inl s0, g, rfl, rfl, k2.le (Nat.zero_le _)⟩))⟩, k3⟩
    · refine (table_sum a b d (byt S) (byt_len _) A c r.L r.u r.e W ha hb hd h3 h4 h5 h6 he ht hp hs hk).mono fun x w' ⟨k1, k3⟩ => ?_
      rcases k1 with ⟨k1, g, k2, k4⟩ | ⟨k1, k2⟩
      · exact ⟨⟨_, _, k2, .inr (.inr (.inr ⟨m0, e0, hk, .inr ⟨S, h8, s0, k1⟩, g, rfl, rfl, k4.le (Nat.zero_le _)⟩))⟩, k3⟩
      · exact ⟨⟨_, _, k2, .inr (.inr (.inl ⟨m0, e0, hk, ⟨S, h8, s0, k1⟩, rfl, rfl⟩))⟩, k3⟩
  · exact (table_wrong a b pd A c r.L r.u r.e W ha hb h3 h5 h6 he hn hk).mono fun x w' ⟨k1, k2⟩ => ⟨⟨_, _, k1, .inr (.inl ⟨m0, e0, hk, rfl, rfl⟩)⟩, k2⟩

/-- A text's answer: the first wrong line's number and error; else the table's. -/
theorem fault11_any (t : ByteArray) (w : World) (he : Eps w) (hg : GE w) (ht : t.size ≤ 65535) : Calls Tryz.prog 8 #[.string t] w fun x w' => ∃ n, x = .returned (.int .i64 n) ∧
    ((n = 0 ∧ alG (spR 10 t.data.toList) (spR 10 t.data.toList).length) ∨ ∃ K : Nat, n = (K : Int) + 1 ∧ K < (spR 10 t.data.toList).length ∧ alG (spR 10 t.data.toList) K ∧ on11 (alR (spR 10 t.data.toList) K) ((spR 10 t.data.toList).getD K []) ≠ 0) ∧ Below w.heap.size w w' := by
  have hr := lread_any t w he hg ht
  generalize spR 10 t.data.toList = ls at *
  have h : Calls Tryz.prog 12 #[.string t] w (ReA (fun _ _ _ _ _ _ n _ _ => (n = 0 ∧ alG ls ls.length) ∨ ∃ K : Nat, n = (K : Int) + 1 ∧ K < ls.length ∧ alG ls K ∧ on11 (alR ls K) (ls.getD K []) ≠ 0) w) := hr.mono fun x w' hx => by
    rcases hx with ⟨⟨cs, h1, h2, h3⟩ | ⟨K, h1, h2, h3, h4⟩, hb⟩
    · obtain ⟨pu, pe, pd, A, c, S, rfl, -⟩ := h3
      exact ⟨_, _, _, _, _, _, _, _, h1, .inl ⟨rfl, h2⟩, hb⟩
    · exact ⟨_, _, _, _, _, _, _, _, h4, .inr ⟨K, rfl, h1, h2, h3⟩, hb⟩
  exact (fault_walk t w h).mono fun x w' ⟨n, h1, ⟨_, _, _, _, _, _, _, _, h2⟩, h3⟩ => ⟨n, h1, h2, h3⟩
theorem parse11_bad (t : ByteArray) (w : World) (he : Eps w) (hg : GE w) (ht : t.size ≤ 65535) (K : Nat) (hK : K < (spR 10 t.data.toList).length) (h1 : alG (spR 10 t.data.toList) K) (h2 : on11 (alR (spR 10 t.data.toList) K) ((spR 10 t.data.toList).getD K []) ≠ 0) :
    Calls Tryz.prog 5 #[.string t] w fun x w' => x = .returned (.tuple #[.pointer none, ev (on11 (alR (spR 10 t.data.toList) K) ((spR 10 t.data.toList).getD K []))]) ∧ Below w.heap.size w w' := by
  have hr := lread_any t w he hg ht
  generalize spR 10 t.data.toList = ls at *
  refine parse_err t _ h2 w (hr.mono fun x w' hx => ?_)
  rcases hx with ⟨⟨cs, k1, k2, k3⟩ | ⟨J, k1, k2, k3, k4⟩, hb⟩
  · exact absurd (k2 K hK) h2
  · have e : J = K := by
      rcases Nat.lt_trichotomy J K with c | c | c
      · exact absurd (h1 J c) k3
      · exact c
      · exact absurd (k2 K c) h2
    subst e
    exact ⟨_, _, _, _, _, _, _, _, k4, rfl, hb⟩
theorem parse11_good (t : ByteArray) (w : World) (he : Eps w) (hg : GE w) (ht : t.size ≤ 65535) (hd : Ends w) (hb : Tab w) (hs : Start w) (h1 : alG (spR 10 t.data.toList) (spR 10 t.data.toList).length) :
    Calls Tryz.prog 5 #[.string t] w fun x w' => (∃ v er, x = .returned (.tuple #[v, er]) ∧ TaA (alR (spR 10 t.data.toList) (spR 10 t.data.toList).length) v er w') ∧ Below w.heap.size w w' := by
  have hr := lread_any t w he hg ht
  have hn := (spR_len 10 t.data.toList).1
  have hz : t.data.toList.length = t.size := by rw [Array.length_toList]; rfl
  generalize spR 10 t.data.toList = ls at *
  have hL : (alR ls ls.length).L.length ≤ 100000 := by have := (al_bd ls ls.length).1; omega
  refine parse_ok (R := fun pu pe A m c pd W => Lv W (alR ls ls.length) #[.pointer pu, .pointer pe, .slice A m c, .pointer pd]) t w (hr.mono fun x w' hx => ?_) (fun pu pe A m c pd W W' h hb => h.below hb)
    (fun pu pe A m c pd W h hbw => table_lv h (hd.below hbw) (hb.below hbw) (he.below hbw) (hs.below hbw) hL)
  rcases hx with ⟨⟨cs, k1, k2, k3⟩ | ⟨J, k1, k2, k3, k4⟩, hb'⟩
  · have k3' := k3
    obtain ⟨pu, pe, pd, A, c, S, rfl, -⟩ := k3'
    exact ⟨_, _, _, _, _, _, _, _, k1, ⟨rfl, k3⟩, hb'⟩
  · exact absurd (h1 J k1) k3
theorem parse11_long (t : ByteArray) (w : World) (ht : ¬ t.size ≤ 65535) :
    Calls Tryz.prog 5 #[.string t] w fun x w' => x = .returned (.tuple #[.pointer none, ev 3]) ∧ Below w.heap.size w w' :=
  parse_err t 3 (by decide) w ((read_long t w ht).mono fun x w' ⟨k1, k2⟩ => ⟨_, _, _, _, _, _, _, _, k1, rfl, k2⟩)
theorem fault11_long (t : ByteArray) (w : World) (ht : ¬ t.size ≤ 65535) :
    Calls Tryz.prog 8 #[.string t] w fun x w' => x = .returned (.int .i64 0) ∧ Below w.heap.size w w' :=
  (fault_walk (R := fun _ _ _ _ _ _ n _ _ => n = 0) t w ((read_long t w ht).mono fun x w' ⟨k1, k2⟩ => ⟨_, _, _, _, _, _, _, _, k1, rfl, k2⟩)).mono fun x w' ⟨n, h1, ⟨_, _, _, _, _, _, _, _, h2⟩, h3⟩ => ⟨by rw [h1, h2], h3⟩

end Go.Proofs.YtdonicaiimeleaaGreatDoor

namespace Go.Proofs.YtdonicaiimeleaaGreatDoor
open Go.RowKit
set_option linter.unusedVariables false

/-- What is read of lines: an error's number, and what was read. -/
def go11 : List (List UInt8) → Rd11 → Int × Rd11
  | [], r => (0, r)
  | x :: xs, r => if on11 r x = 0 then go11 xs (nx11 r x) else (on11 r x, r)
theorem go_two : ∀ (ls : List (List UInt8)) (r : Rd11),
    ((∀ j, j < ls.length → on11 ((ls.take j).foldl nx11 r) (ls.getD j []) = 0) ∧ go11 ls r = (0, ls.foldl nx11 r)) ∨
    ∃ K, K < ls.length ∧ (∀ j, j < K → on11 ((ls.take j).foldl nx11 r) (ls.getD j []) = 0) ∧ on11 ((ls.take K).foldl nx11 r) (ls.getD K []) ≠ 0 ∧ go11 ls r = (on11 ((ls.take K).foldl nx11 r) (ls.getD K []), (ls.take K).foldl nx11 r)
  | [], r => .inl ⟨fun j hj => absurd hj (Nat.not_lt_zero _), rfl⟩
  | x :: xs, r => by
    by_cases h : on11 r x = 0
    · rcases go_two xs (nx11 r x) with ⟨h1, h2⟩ | ⟨K, h1, h2, h3, h4⟩
      · refine .inl ⟨fun j hj => ?_, ?_⟩
        · cases j with
          | zero => exact h
          | succ j => exact h1 j (by simpa using hj)
        · rw [go11, if_pos h]; exact h2
      · refine .inr ⟨K + 1, by simpa using h1, fun j hj => ?_, h3, ?_⟩
        · cases j with
          | zero => exact h
          | succ j => exact h2 j (by omega)
        · rw [go11, if_pos h]; exact h4
    · refine .inr ⟨0, by simp, fun j hj => absurd hj (Nat.not_lt_zero _), h, ?_⟩
      rw [go11, if_neg h]; rfl
theorem go_is (ls : List (List UInt8)) : (alG ls ls.length ∧ go11 ls zr11 = (0, alR ls ls.length)) ∨
    ∃ K, K < ls.length ∧ alG ls K ∧ on11 (alR ls K) (ls.getD K []) ≠ 0 ∧ go11 ls zr11 = (on11 (alR ls K) (ls.getD K []), alR ls K) := by
  rcases go_two ls zr11 with ⟨h1, h2⟩ | ⟨K, h1, h2, h3, h4⟩
  · refine .inl ⟨fun j hj => ?_, ?_⟩
    · rw [alR_fold ls j (by omega)]; exact h1 j hj
    · rw [alR_fold ls _ (Nat.le_refl _), List.take_length]; exact h2
  · refine .inr ⟨K, h1, fun j hj => ?_, ?_, ?_⟩
    · rw [alR_fold ls j (by omega)]; exact h2 j hj
    · rw [alR_fold ls K (by omega)]; exact h3
    · rw [alR_fold ls K (by omega)]; exact h4
theorem go_app (z : List (List UInt8)) : ∀ (ls : List (List UInt8)) (r : Rd11), go11 (ls ++ z) r = if (go11 ls r).1 = 0 then go11 z (go11 ls r).2 else go11 ls r
  | [], r => by rw [List.nil_append, go11]; simp
  | x :: xs, r => by
    rw [List.cons_append, go11, go11]
    by_cases h : on11 r x = 0
    · rw [if_pos h, if_pos h, go_app z xs]
    · rw [if_neg h, if_neg h]; simp [h]
/-- A line that changes nothing. -/
def nul11 (x : List UInt8) : Prop := ∀ r, on11 r x = 0 ∧ nx11 r x = r
theorem nul_gap {x : List UInt8} (h : wdL x = []) : nul11 x := fun r => ⟨by unfold on11; rw [if_pos h], by unfold nx11; rw [if_pos h]⟩
theorem nul_nil : nul11 [] := nul_gap (by decide)
theorem go_nul {x : List UInt8} (h : nul11 x) (z : List (List UInt8)) (r : Rd11) : go11 (x :: z) r = go11 z r := by
  rw [go11, if_pos (h r).1, (h r).2]
theorem go_sp (l : List UInt8) : go11 (spR 10 l) zr11 = go11 (lnL l) zr11 := by
  rcases ln_sp l with h | h
  · rw [h]
  · rw [h, go_app, go_nul nul_nil]
    by_cases c : (go11 (lnL l) zr11).1 = 0
    · rw [if_pos c, go11]; exact Prod.ext c.symm rfl
    · rw [if_neg c]

/-- Words of four bytes are what their bytes are. -/
theorem be4_inj {x y : BitVec 32} (h : be 4 x.toNat = be 4 y.toNat) : x = y := by rw [← word_back x, ← word_back y, h]
theorem byt_inj {S T : St} (h : byt S = byt T) : S = T := by
  unfold byt at h
  obtain ⟨h1, h⟩ := List.append_inj h (by rw [be_len, be_len])
  obtain ⟨h2, h⟩ := List.append_inj h (by rw [be_len, be_len])
  obtain ⟨h3, h⟩ := List.append_inj h (by rw [be_len, be_len])
  obtain ⟨h4, h5⟩ := List.append_inj h (by rw [be_len, be_len])
  have e1 := be4_inj h1; have e2 := be4_inj h2; have e3 := be4_inj h3; have e4 := be4_inj h4; have e5 := be4_inj h5
  cases S; cases T
  simp only at e1 e2 e3 e4 e5
  rw [e1, e2, e3, e4, e5]
/-- The digest's words are these numbers. -/
def sm11 (r : Rd11) (T : St) : Prop := (T.a.toNat : Int) = r.x0 ∧ (T.b.toNat : Int) = r.x1 ∧ (T.c.toNat : Int) = r.x2 ∧ (T.d.toNat : Int) = r.x3 ∧ (T.e.toNat : Int) = r.x4
instance (r : Rd11) (T : St) : Decidable (sm11 r T) := by unfold sm11; infer_instance
theorem x5_sm {r : Rd11} {S T : St} (h : X5 r S) (hs : 0 < r.s) : byt S = byt T ↔ sm11 r T := by
  obtain ⟨h0, h1, h2, h3, h4⟩ := h hs
  constructor
  · intro e
    have e := byt_inj e
    subst e
    exact ⟨h0.symm, h1.symm, h2.symm, h3.symm, h4.symm⟩
  · rintro ⟨k0, k1, k2, k3, k4⟩
    have e : S = T := by
      have e0 : S.a = T.a := BitVec.eq_of_toNat_eq (by omega)
      have e1 : S.b = T.b := BitVec.eq_of_toNat_eq (by omega)
      have e2 : S.c = T.c := BitVec.eq_of_toNat_eq (by omega)
      have e3 : S.d = T.d := BitVec.eq_of_toNat_eq (by omega)
      have e4 : S.e = T.e := BitVec.eq_of_toNat_eq (by omega)
      cases S; cases T
      simp only at e0 e1 e2 e3 e4
      rw [e0, e1, e2, e3, e4]
    rw [e]
/-- A right text's table's error. -/
noncomputable def paE11 (r : Rd11) : Int :=
  if r.m = 0 ∨ r.h = 0 then 2 else if lkE r.L r.u r.e = 0 then (if 0 < r.s ∧ ¬ sm11 r (dig (dgT r.L r.u r.e)) then 7 else 0) else lkE r.L r.u r.e
theorem paE11_lo (r : Rd11) : 0 ≤ paE11 r ∧ paE11 r < 100 := by
  have := lkE_lo r.L r.u r.e
  unfold paE11
  repeat' split
  all_goals omega
theorem paE11_zero {r : Rd11} (h : paE11 r = 0) : r.m ≠ 0 ∧ r.h ≠ 0 ∧ lkE r.L r.u r.e = 0 ∧ (0 < r.s → sm11 r (dig (dgT r.L r.u r.e))) := by
  unfold paE11 at h
  split at h
  · cases h
  rename_i c
  split at h
  · split at h
    · cases h
    · rename_i k q
      exact ⟨fun e => c (.inl e), fun e => c (.inr e), k, fun hs => Decidable.byContradiction fun n => q ⟨hs, n⟩⟩
  · exact absurd h (by assumption)
theorem ta_pa {r : Rd11} {v er : Value} {w : World} (h : TaA r v er w) (hm : 0 ≤ r.m) (hh : 0 ≤ r.h) :
    er = ev (paE11 r) ∧ (paE11 r ≠ 0 → v = .pointer none) ∧ (paE11 r = 0 → ∃ g, v = .pointer (some ⟨g, 0, none⟩) ∧ Tb 0 w g r.L r.u r.e) := by
  unfold paE11
  rcases h with ⟨c, rfl, rfl⟩ | ⟨m0, h0, k, rfl, rfl⟩ | ⟨m0, h0, k, ⟨S, x5, s0, hb⟩, rfl, rfl⟩ | ⟨m0, h0, k, hs, g, rfl, rfl, ht⟩
  · rw [if_pos c]
    exact ⟨rfl, fun _ => rfl, fun h => by cases h⟩
  · rw [if_neg (by omega), if_neg k]
    exact ⟨rfl, fun _ => rfl, fun h => absurd h k⟩
  · rw [if_neg (by omega), if_pos k, if_pos ⟨s0, fun q => hb ((x5_sm x5 s0).2 q)⟩]
    exact ⟨rfl, fun _ => rfl, fun h => by cases h⟩
  · have q : ¬ (0 < r.s ∧ ¬ sm11 r (dig (dgT r.L r.u r.e))) := by
      rintro ⟨s0, n⟩
      rcases hs with s1 | ⟨S, x5, _, hb⟩
      · omega
      · exact n ((x5_sm x5 s0).1 hb)
    rw [if_neg (by omega), if_pos k, if_neg q]
    exact ⟨rfl, fun h => absurd rfl h, fun _ => ⟨g, rfl, ht⟩⟩
/-- A text's error, and what was read of it. -/
def rg11 (l : List UInt8) : Rd11 := (go11 (lnL l) zr11).2
noncomputable def pE11 (l : List UInt8) : Int := if (go11 (lnL l) zr11).1 = 0 then paE11 (rg11 l) else (go11 (lnL l) zr11).1
/-- The same, when a text is too long. -/
noncomputable def pZ11 (l : List UInt8) : Int := if l.length ≤ 65535 then pE11 l else 3
theorem parse11_all (t : ByteArray) (w : World) (he : Eps w) (hg : GE w) (hd : Ends w) (hb : Tab w) (hs : Start w) :
    Calls Tryz.prog 5 #[.string t] w fun x w' => ∃ v, x = .returned (.tuple #[v, ev (pZ11 t.data.toList)]) ∧ (pZ11 t.data.toList ≠ 0 → v = .pointer none) ∧
      (pZ11 t.data.toList = 0 → ∃ g, v = .pointer (some ⟨g, 0, none⟩) ∧ Tb 0 w' g (rg11 t.data.toList).L (rg11 t.data.toList).u (rg11 t.data.toList).e) ∧ Below w.heap.size w w' := by
  have hz : t.data.toList.length = t.size := by rw [Array.length_toList]; rfl
  unfold pZ11
  rw [hz]
  by_cases ht : t.size ≤ 65535
  · rw [if_pos ht]
    rcases go_is (spR 10 t.data.toList) with ⟨h1, h2⟩ | ⟨K, h1, h2, h3, h4⟩
    · have h := parse11_good t w he hg ht hd hb hs h1
      rw [go_sp] at h2
      have bd := al_bd (spR 10 t.data.toList) (spR 10 t.data.toList).length
      unfold pE11 rg11
      rw [h2, if_pos rfl]
      dsimp only
      refine h.mono fun x w' ⟨⟨v, er, k1, k2⟩, k3⟩ => ?_
      obtain ⟨p1, p2, p3⟩ := ta_pa k2 bd.2.1 bd.2.2.2.1
      subst p1
      exact ⟨v, k1, p2, p3, k3⟩
    · have h := parse11_bad t w he hg ht K h1 h2 h3
      rw [go_sp] at h4
      unfold pE11
      rw [h4, if_neg h3]
      dsimp only
      exact h.mono fun x w' ⟨k1, k2⟩ => ⟨_, k1, fun _ => rfl, fun h => absurd h h3, k2⟩
  · rw [if_neg ht]
    exact (parse11_long t w ht).mono fun x w' ⟨k1, k2⟩ => ⟨_, k1, fun _ => rfl, fun h => absurd h (by decide), k2⟩

end Go.Proofs.YtdonicaiimeleaaGreatDoor

namespace Go.Proofs.YtdonicaiimeleaaGreatDoor
open Go.RowKit
set_option linter.unusedVariables false
set_option linter.unusedSimpArgs false

/-- Are two tables the same? -/
noncomputable def smB (L : List Rw) (u e : Int) (M : List Rw) (x y : Int) : Bool := (u == x && e == y) && eqL L M
end Go.Proofs.YtdonicaiimeleaaGreatDoor

namespace Go.Proofs.YtdonicaiimeleaaGreatDoor
open Go.RowKit
set_option linter.unusedVariables false
set_option linter.unusedSimpArgs false

theorem smB_len {L M : List Rw} {u e x y : Int} (h : L.length ≠ M.length) : smB L u e M x y = false := by unfold smB; rw [eqL_len h, Bool.and_false]
theorem smB_u {L M : List Rw} {u e x y : Int} (h : u ≠ x) : smB L u e M x y = false := by unfold smB; rw [show (u == x) = false by simpa using h]; rfl
theorem smB_e {L M : List Rw} {u e x y : Int} (h : e ≠ y) : smB L u e M x y = false := by unfold smB; rw [show (e == y) = false by simpa using h, Bool.and_false]; rfl
theorem smB_at {L M : List Rw} {u e x y : Int} {j : Nat} (h : (rd L j == rd M j && ro L j == ro M j) = false) : smB L u e M x y = false := by unfold smB; rw [eqL_at h, Bool.and_false]
theorem smB_all {L M : List Rw} {u e : Int} (h : L.length = M.length) (hj : ∀ j, j < L.length → (rd L j == rd M j && ro L j == ro M j) = true) : smB L u e M u e = true := by unfold smB; rw [eqL_all h hj]; simp

set_option maxHeartbeats 4000000 in
theorem rsame_any (A A' : Option Addr) (c c' : Nat) (L M : List Rw) (u e x y : Int) (w : World) (hr : Rp w.heap.size w A L) (hs : Rp w.heap.size w A' M) (hL : L.length ≤ 100000) (hM : M.length ≤ 100000) :
    Calls Tryz.prog 18 #[.agg #[.slice A L.length c, .int .i64 u, .int .i64 e], .agg #[.slice A' M.length c', .int .i64 x, .int .i64 y]] w fun r w' => r = .returned (.bool (smB L u e M x y)) ∧ Below w.heap.size w w' := by
  obtain ⟨W0, hW0, hb, hz0, c0, c1, c2⟩ := dbox w A L.length c u e
  obtain ⟨W1, hW1, hb1, hz1, d0, d1, d2⟩ := dbox W0 A' M.length c' x y
  have B1 := hb.trans (hb1.mono hb.size)
  have hlt : w.heap.size < W0.heap.size := by omega
  have c0 := (hb1.cell (p := ⟨w.heap.size, 0, none⟩) hlt).trans c0
  have c1 := (hb1.cell (p := ⟨w.heap.size, 1, none⟩) hlt).trans c1
  have c2 := (hb1.cell (p := ⟨w.heap.size, 2, none⟩) hlt).trans c2
  rw [hz0] at d0 d1 d2
  have HR := Lib.hid (hr.keep B1); have HS := Lib.hid (hs.keep B1); have HB := Lib.hid B1
  have hW : W1 = (w.alloc (.cells #[.slice A L.length c, .int .i64 u, .int .i64 e] 30)).alloc (.cells #[.slice A' M.length c', .int .i64 x, .int .i64 y] 30) := by rw [hW1, hW0]
  clear hW0 hW1 hb hb1 hz0 hz1 hlt B1 hr hs
  have q0 := eq_doc10
  by_cases h1 : L.length = M.length
  rotate_left
  · have hz : ¬ (L.length : Int) = (M.length : Int) := by omega
    rw [smB_len h1]
    clear h1 HR HS
    generalize L.length = N at *
    generalize M.length = N' at *
    go_enter Tryz.func18, Tryz.ntmps18
    go_upto_region 1 with fail
    rw [← hW]
    clear hW
    go_wp2
    go_ret
    exact ⟨rfl, HB.out⟩
  obtain ⟨N, hN⟩ : ∃ N, N = L.length := ⟨_, rfl⟩
  have hNM : M.length = N := by omega
  rw [hNM] at d0 hW ⊢
  rw [← hN] at c0 hW hL ⊢
  have HN := Lib.hid hN; have HM := Lib.hid hNM
  clear hN hNM
  by_cases h2 : u = x
  rotate_left
  · rw [smB_u h2]
    go_enter Tryz.func18, Tryz.ntmps18
    go_upto_region 1 with fail
    rw [← hW]
    clear hW
    go_wp2
    go_ret
    exact ⟨rfl, HB.out⟩
  subst h2
  by_cases h3 : e = y
  rotate_left
  · rw [smB_e h3]
    go_enter Tryz.func18, Tryz.ntmps18
    go_upto_region 1 with fail
    rw [← hW]
    clear hW
    go_wp2
    go_ret
    exact ⟨rfl, HB.out⟩
  subst h3
  clear h1
  go_enter Tryz.func18, Tryz.ntmps18
  go_upto_region 1 with fail
  rw [← hW]
  clear hW
  go_wp2
  go_loopg [5] N (fun gg s5 wr => ∃ k q : Nat, k ≤ N ∧ N - k ≤ gg ∧ s5 = .int .i64 k ∧ wr = W1.drewN q ∧ Hid (∀ j, j < k → (rd L j == rd M j && ro L j == ro M j) = true))
  case atStart => exact ⟨0, 0, Nat.zero_le _, by omega, rfl, rfl, Lib.hid fun j hj => absurd hj (Nat.not_lt_zero _)⟩
  case round =>
    obtain ⟨k, q, hk, hg, rfl, rfl, F⟩ := hrel
    by_cases hlt : k < N
    · have hltz : (k : Int) < (N : Int) := by omega
      obtain ⟨b, off, rfl, -, -, hc⟩ := HR.out.pos (by have := HN.out; omega)
      obtain ⟨a1, a2⟩ := hc k (by have := HN.out; omega)
      obtain ⟨b', off', rfl, -, -, hc'⟩ := HS.out.pos (by have := HM.out; omega)
      obtain ⟨a3, a4⟩ := hc' k (by have := HM.out; omega)
      clear hc hc' HR HS
      cases hT : (rd L k == rd M k && ro L k == ro M k) with
      | false =>
        have T2 := Lib.hid hT
        have q1 := fun w => eq_doc10 (rd L k) (ro L k) (rd M k) (ro M k) w
        rw [hT] at q1
        clear q0 hT
        go_wp2
        go_quiet (fail)
        go_wp2
        go_ret
        exact ⟨ret1_eq (bool_eq (smB_at T2.out).symm), HB.out.trans (by first | exact drewN_below _ _ _ | exact (drewN_below _ _ _).trans (drewN_below _ _ _))⟩
      | true =>
        have T2 := Lib.hid hT
        have q1 := fun w => eq_doc10 (rd L k) (ro L k) (rd M k) (ro M k) w
        rw [hT] at q1
        clear q0 hT
        go_wp2
        go_quiet (fail)
        go_wp2
        go_roundg (N - (k + 1))
        case measure => omega
        case rel =>
          refine ⟨k + 1, _, by omega, by omega, by go_num, rfl, Lib.hid fun j hj => ?_⟩
          by_cases e : j = k
          · subst e; exact T2.out
          · exact F.out j (by omega)
    · have hltz : ¬ (k : Int) < (N : Int) := by omega
      obtain rfl : N = k := by omega
      go_wp2
      go_ret
      exact ⟨ret1_eq (bool_eq (smB_all (by rw [HM.out, HN.out]) (by rw [← HN.out]; exact F.out)).symm), HB.out.trans (drewN_below _ _ _)⟩

end Go.Proofs.YtdonicaiimeleaaGreatDoor

namespace Go.Proofs.YtdonicaiimeleaaGreatDoor
open Go.RowKit
set_option linter.unusedVariables false
set_option linter.unusedSimpArgs false

/-- The document's table in a box of its own. -/
theorem doc_box (w : World) (A : Option Addr) (n c : Nat) (u e : Int) : ∃ W3, W3 = w.alloc (.cells #[.slice A n c, .int .i64 u, .int .i64 e] 30) ∧ Below w.heap.size w W3 ∧ w.heap.size < W3.heap.size ∧
    ∀ W, Below W3.heap.size W3 W → W.cell? ⟨w.heap.size, 0, none⟩ = some (.slice A n c) ∧ W.cell? ⟨w.heap.size, 1, none⟩ = some (.int .i64 u) ∧ W.cell? ⟨w.heap.size, 2, none⟩ = some (.int .i64 e) := by
  have g := heap_alloc_new w (.cells #[.slice A n c, .int .i64 u, .int .i64 e] 30)
  have hl := bk_lt g
  exact ⟨_, rfl, bel_box w _, hl, fun W hb => ⟨(hb.cell (p := ⟨w.heap.size, 0, none⟩) hl).trans (bk_cell g 0), (hb.cell (p := ⟨w.heap.size, 1, none⟩) hl).trans (bk_cell g 1), (hb.cell (p := ⟨w.heap.size, 2, none⟩) hl).trans (bk_cell g 2)⟩⟩

end Go.Proofs.YtdonicaiimeleaaGreatDoor

namespace Go.Proofs.YtdonicaiimeleaaGreatDoor
open Go.RowKit
set_option linter.unusedVariables false
set_option linter.unusedSimpArgs false

theorem smB_self (L : List Rw) (u e : Int) : smB L u e L u e = true := by unfold smB; rw [eqL_self]; simp
/-- What a drawn region keeps. -/
structure Kb (W0 W : World) : Prop where
  bel : Below W0.heap.size W0 W
theorem Kb.step {W0 W W' : World} (h : Kb W0 W) (hb : Below W.heap.size W W') : Kb W0 W' := ⟨h.bel.trans (hb.mono h.bel.size)⟩

end Go.Proofs.YtdonicaiimeleaaGreatDoor
