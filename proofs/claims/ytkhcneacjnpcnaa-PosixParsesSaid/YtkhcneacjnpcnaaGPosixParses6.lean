/- Merged: ScanB. -/
import Derived.Test.YtkhcneacjnpcnaaGPosixParses5
namespace Go.Proofs.Ytkhcneacjnpcnaa
open Go.RowKit
set_option linter.unusedVariables false

/-- The next byte, and whether there is one. -/
def pkB : List UInt8 → Int | [] => 0 | b :: _ => (b.toNat : Int)
def pkT : List UInt8 → Bool | [] => false | _ :: _ => true
theorem rs_at {l : List UInt8} {k : Nat} {e : Int} (h : rs l k e ≠ []) : e = 0 ∧ k < l.length := by
  unfold rs at h
  split at h
  · refine ⟨by assumption, ?_⟩
    rcases Nat.lt_or_ge k l.length with h1 | h1
    · exact h1
    · exact absurd (List.drop_eq_nil_of_le h1) h
  · exact absurd rfl h
theorem rs_cons {l : List UInt8} {k : Nat} (h : k < l.length) : rs l k 0 = l[k] :: l.drop (k + 1) := by rw [rs_zero, List.drop_eq_getElem_cons h]

/-- The error's number at the end. -/
def enE (l : List UInt8) (k : Nat) (e : Int) : Int := if e = 0 ∧ k < l.length then 2 else e

set_option maxHeartbeats 800000 in
theorem peek_s (g k : Nat) (e : Int) (v : Value) (s : ByteArray) (w : World) (h : Sk Ts w g v k e) (ht : Txs w g v s) (hk : k ≤ s.size) (hs : s.size ≤ 100000) :
    Calls Try.prog 42 #[.pointer (some ⟨g, 0, none⟩)] w fun x w' => x = .returned (.tuple #[.int .u8 (pkB (rs s.data.toList k e)), .bool (pkT (rs s.data.toList k e))]) ∧ ∃ n, w' = w.drewN n := by
  have HL := Lib.hid (left_s g k e v s w h ht hk hs)
  have c0 := h.c0
  have c1 := h.c1
  by_cases hn : rs s.data.toList k e = []
  · rw [hn] at HL ⊢
    clear hn h ht
    go_enter Try.func42, Try.ntmps42
    go_wp2_with (go_at_call 20; refine HL.out.mono ?_; rintro x w' ⟨rfl, n, rfl⟩)
    go_ret2
    exact ⟨rfl, _, rfl⟩
  · obtain ⟨rfl, hlt⟩ := rs_at hn
    have hlt' : k < s.size := by simpa using hlt
    have hpos : (0 < (rs s.data.toList k 0).length) := List.length_pos_iff.2 hn
    have hc := rs_cons hlt
    have H1 : RowKit.Hid (pkB (rs s.data.toList k 0) = (s[k].toNat : Int)) := by rw [hc]; exact rfl
    have H2 : RowKit.Hid (pkT (rs s.data.toList k 0) = true) := by rw [hc]; exact rfl
    obtain ⟨m, hm⟩ : ∃ m, m = (rs s.data.toList k 0).length := ⟨_, rfl⟩
    rw [← hm] at HL hpos
    generalize pkB (rs s.data.toList k 0) = x at *
    generalize pkT (rs s.data.toList k 0) = y at *
    have hm0 : ((m : Int) == 0) = false := by simp; omega
    obtain rfl := ht
    
    clear hn hc hm hpos h hlt 
    go_enter Try.func42, Try.ntmps42
    go_wp2_with (go_at_call 20; refine HL.out.mono ?_; rintro x w' ⟨rfl, n, rfl⟩)
    go_quiet (fail)
    go_wp2
    go_ret2
    exact ⟨ret2_eq (int_eq H1.out.symm) (bool_eq H2.out.symm), _, World.drewN_drewN _ _ _⟩

set_option maxHeartbeats 800000 in
theorem take_s (g k : Nat) (e : Int) (v : Value) (s : ByteArray) (b : UInt8) (w : World) (h : Sk Ts w g v k e) (ht : Txs w g v s) (hk : k ≤ s.size) (hs : s.size ≤ 100000) (hyes : (rs s.data.toList k e).head? = some b) :
    Calls Try.prog 35 #[.pointer (some ⟨g, 0, none⟩), .int .u8 (b.toNat : Int)] w fun x w' => x = .returned (.bool true) ∧ Mv Ts g v (k + 1) e w w' := by
  have HP := peek_s g k e v s w h ht hk hs
  have c1 := h.c1
  have f1 := h.free 1
  have hne : rs s.data.toList k e ≠ [] := by intro h0; rw [h0] at hyes; cases hyes
  obtain ⟨_, hlt⟩ := rs_at hne
  have hlt' : k < s.size := by simpa using hlt
  obtain ⟨r, hr⟩ : ∃ r, rs s.data.toList k e = b :: r := by
    cases hq : rs s.data.toList k e with
    | nil => exact absurd hq hne
    | cons a r => rw [hq] at hyes; simp at hyes; subst hyes; exact ⟨r, rfl⟩
  rw [hr] at HP
  have HP' := Lib.hid (show Calls Try.prog 42 #[.pointer (some ⟨g, 0, none⟩)] w fun x w' => x = .returned (.tuple #[.int .u8 (b.toNat : Int), .bool true]) ∧ ∃ n, w' = w.drewN n from HP)
  have HS := Lib.hid h
  clear HP hne hr hyes h ht hlt
  go_enter Try.func35, Try.ntmps35
  go_wp2_with (go_at_call 42; refine HP'.out.mono ?_; rintro x w' ⟨rfl, n, rfl⟩)
  go_ret
  exact ⟨rfl, (HS.out.drewN n).set1 (k + 1) (by omega), gb_set (gb_draw (gb_refl _ _) n) 1 _⟩
theorem taken_s (g k : Nat) (e : Int) (v : Value) (s : ByteArray) (b : UInt8) (w : World) (h : Sk Ts w g v k e) (ht : Txs w g v s) (hk : k ≤ s.size) (hs : s.size ≤ 100000) (hno : (rs s.data.toList k e).head? ≠ some b) :
    Calls Try.prog 35 #[.pointer (some ⟨g, 0, none⟩), .int .u8 (b.toNat : Int)] w fun x w' => x = .returned (.bool false) ∧ Mv Ts g v k e w w' := by
  have HP := peek_s g k e v s w h ht hk hs
  have HS := Lib.hid h
  cases hq : rs s.data.toList k e with
  | nil =>
    rw [hq] at HP
    have HP' := Lib.hid (show Calls Try.prog 42 #[.pointer (some ⟨g, 0, none⟩)] w fun x w' => x = .returned (.tuple #[.int .u8 0, .bool false]) ∧ ∃ n, w' = w.drewN n from HP)
    clear HP hq hno h ht hk
    go_enter Try.func35, Try.ntmps35
    go_wp2_with (go_at_call 42; refine HP'.out.mono ?_; rintro x w' ⟨rfl, n, rfl⟩)
    go_ret
    exact ⟨rfl, Mv.refl HS.out n⟩
  | cons a r =>
    rw [hq] at HP hno
    have hab : ((a.toNat : Int) != (b.toNat : Int)) = true := by
      rw [bne_iff_ne]
      intro h1
      apply hno
      have : a = b := UInt8.toNat_inj.1 (by omega)
      rw [this]; rfl
    have HP' := Lib.hid (show Calls Try.prog 42 #[.pointer (some ⟨g, 0, none⟩)] w fun x w' => x = .returned (.tuple #[.int .u8 (a.toNat : Int), .bool true]) ∧ ∃ n, w' = w.drewN n from HP)
    clear HP hq hno h ht hk
    go_enter Try.func35, Try.ntmps35
    go_wp2_with (go_at_call 42; refine HP'.out.mono ?_; rintro x w' ⟨rfl, n, rfl⟩)
    go_ret
    exact ⟨rfl, Mv.refl HS.out n⟩

theorem takes_s (g k : Nat) (e : Int) (v : Value) (s : ByteArray) (b : UInt8) (w : World) (h : Sk Ts w g v k e) (ht : Txs w g v s) (hk : k ≤ s.size) (hs : s.size ≤ 100000) :
    Calls Try.prog 35 #[.pointer (some ⟨g, 0, none⟩), .int .u8 (b.toNat : Int)] w fun x w' =>
      x = .returned (.bool ((rs s.data.toList k e).head? == some b)) ∧ Mv Ts g v (if (rs s.data.toList k e).head? = some b then k + 1 else k) e w w' := by
  by_cases hy : (rs s.data.toList k e).head? = some b
  · rw [if_pos hy, hy, show (some b == some b) = true by simp]
    exact take_s g k e v s b w h ht hk hs hy
  · rw [if_neg hy, show ((rs s.data.toList k e).head? == some b) = false by simpa using hy]
    exact taken_s g k e v s b w h ht hk hs hy
/-- End's error: none or one. -/
theorem end_s (g k : Nat) (e : Int) (v : Value) (s : ByteArray) (w : World) (h : Sk Ts w g v k e) (ht : Txs w g v s) (hk : k ≤ s.size) (hs : s.size ≤ 100000) :
    Calls Try.prog 11 #[.pointer (some ⟨g, 0, none⟩)] w fun x w' => x = .returned (ev (enE s.data.toList k e)) ∧ ∃ n, w' = w.drewN n := by
  have HL := Lib.hid (left_s g k e v s w h ht hk hs)
  have HE := Lib.hid (err_s g k e v w h)
  have hl := rs_len s.data.toList k e
  rw [show s.data.toList.length = s.size by simp] at hl
  have q0 := fun op t x k => guard_ev op t w x k
  have q2 := fun k => neq_ev w k
  by_cases h0 : e = 0
  · subst h0
    rw [if_pos rfl] at hl
    by_cases hlt : k < s.size
    · have e1 : enE s.data.toList k 0 = 2 := by unfold enE; rw [if_pos ⟨rfl, by simpa using hlt⟩]
      rw [e1]
      obtain ⟨m, hm⟩ : ∃ m, m = (rs s.data.toList k 0).length := ⟨_, rfl⟩
      rw [← hm] at HL hl
      have hm0 : ((m : Int) > 0) := by omega
      clear hl hm h ht hk e1
      go_enter Try.func11, Try.ntmps11
      go_wp2_with (first
        | (go_at_call 23; refine HE.out.mono ?_; rintro x w' ⟨rfl, rfl⟩)
        | (go_at_call 20; refine HL.out.mono ?_; rintro x w' ⟨rfl, n, rfl⟩))
      go_ret
      exact ⟨rfl, _, rfl⟩
    · have e1 : enE s.data.toList k 0 = 0 := by unfold enE; rw [if_neg (by simp; omega)]
      rw [e1]
      obtain ⟨m, hm⟩ : ∃ m, m = (rs s.data.toList k 0).length := ⟨_, rfl⟩
      rw [← hm] at HL hl
      have hm0 : ¬ ((m : Int) > 0) := by omega
      clear hl hm h ht hk e1 hlt
      go_enter Try.func11, Try.ntmps11
      go_wp2_with (first
        | (go_at_call 23; refine HE.out.mono ?_; rintro x w' ⟨rfl, rfl⟩)
        | (go_at_call 20; refine HL.out.mono ?_; rintro x w' ⟨rfl, n, rfl⟩))
      go_ret
      exact ⟨rfl, _, rfl⟩
  · have e1 : enE s.data.toList k e = e := by unfold enE; rw [if_neg (fun h => h0 h.1)]
    rw [e1]
    have hz : (e != 0) = true := bne_iff_ne.mpr h0
    clear hl h ht hk e1 h0 HL
    go_enter Try.func11, Try.ntmps11
    go_wp2_with (go_at_call 23; refine HE.out.mono ?_; rintro x w' ⟨rfl, rfl⟩)
    go_ret
    exact ⟨rfl, 0, rfl⟩
end Go.Proofs.Ytkhcneacjnpcnaa
