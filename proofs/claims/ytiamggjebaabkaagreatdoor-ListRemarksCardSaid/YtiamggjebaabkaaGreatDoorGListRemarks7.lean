/- Merged: ScanB, ScanD, Part. -/
import Derived.Test.YtiamggjebaabkaaGreatDoorGListRemarks6
import Derived.IntWalk
import Derived.Test.YtiamggjebaabkaaGreatDoorGListRemarks5
import Derived.Deep.OwnRows
namespace Go.Proofs.YtiamggjebaabkaaGreatDoor
open Go.RowKit
set_option linter.unusedVariables false

/-- The next byte, and whether there is one. -/
def pkB : List UInt8 → Int | [] => 0 | b :: _ => (b.toNat : Int)
def pkT : List UInt8 → Bool | [] => false | _ :: _ => true
theorem rs_at {l : List UInt8} {k : Nat} {e : Int} (h : rs l k e ≠ []) : e = 0 ∧ k < l.length := by
  unfold rs at h
  split at h
  · refine ⟨by assumption, ?_⟩
    rcases Nat.lt_or_ge k l.length with h1 | h1
    · exact h1
    · exact absurd (List.drop_eq_nil_of_le h1) h
  · exact absurd rfl h
theorem rs_cons {l : List UInt8} {k : Nat} (h : k < l.length) : rs l k 0 = l[k] :: l.drop (k + 1) := by rw [rs_zero, List.drop_eq_getElem_cons h]

/-- The error's number at the end. -/
def enE (l : List UInt8) (k : Nat) (e : Int) : Int := if e = 0 ∧ k < l.length then 2 else e

set_option maxHeartbeats 800000 in
theorem peek_s (g k : Nat) (e : Int) (v : Value) (s : ByteArray) (w : World) (h : Sk Ts w g v k e) (ht : Txs w g v s) (hk : k ≤ s.size) (hs : s.size ≤ 100000) :
    Calls Tryz.prog 105 #[.pointer (some ⟨g, 0, none⟩)] w fun x w' => x = .returned (.tuple #[.int .u8 (pkB (rs s.data.toList k e)), .bool (pkT (rs s.data.toList k e))]) ∧ ∃ n, w' = w.drewN n := by
  have HL := Lib.hid (left_s g k e v s w h ht hk hs)
  have c0 := h.c0
  have c1 := h.c1
  by_cases hn : rs s.data.toList k e = []
  · rw [hn] at HL ⊢
    clear hn h ht
    go_enter Tryz.func105, Tryz.ntmps105
    go_wp2_with (go_at_call 107; refine HL.out.mono ?_; rintro x w' ⟨rfl, n, rfl⟩)
    go_ret2
    exact ⟨rfl, _, rfl⟩
  · obtain ⟨rfl, hlt⟩ := rs_at hn
    have hlt' : k < s.size := by simpa using hlt
    have hpos : (0 < (rs s.data.toList k 0).length) := List.length_pos_iff.2 hn
    have hc := rs_cons hlt
    have H1 : RowKit.Hid (pkB (rs s.data.toList k 0) = (s[k].toNat : Int)) := by rw [hc]; exact rfl
    have H2 : RowKit.Hid (pkT (rs s.data.toList k 0) = true) := by rw [hc]; exact rfl
    obtain ⟨m, hm⟩ : ∃ m, m = (rs s.data.toList k 0).length := ⟨_, rfl⟩
    rw [← hm] at HL hpos
    generalize pkB (rs s.data.toList k 0) = x at *
    generalize pkT (rs s.data.toList k 0) = y at *
    have hm0 : ((m : Int) == 0) = false := by simp; omega
    obtain rfl := ht
    
    clear hn hc hm hpos h hlt 
    go_enter Tryz.func105, Tryz.ntmps105
    go_wp2_with (go_at_call 107; refine HL.out.mono ?_; rintro x w' ⟨rfl, n, rfl⟩)
    go_quiet (fail)
    go_wp2
    go_ret2
    exact ⟨ret2_eq (int_eq H1.out.symm) (bool_eq H2.out.symm), _, World.drewN_drewN _ _ _⟩

set_option maxHeartbeats 800000 in
theorem take_s (g k : Nat) (e : Int) (v : Value) (s : ByteArray) (b : UInt8) (w : World) (h : Sk Ts w g v k e) (ht : Txs w g v s) (hk : k ≤ s.size) (hs : s.size ≤ 100000) (hyes : (rs s.data.toList k e).head? = some b) :
    Calls Tryz.prog 80 #[.pointer (some ⟨g, 0, none⟩), .int .u8 (b.toNat : Int)] w fun x w' => x = .returned (.bool true) ∧ Mv Ts g v (k + 1) e w w' := by
  have HP := peek_s g k e v s w h ht hk hs
  have c1 := h.c1
  have f1 := h.free 1
  have hne : rs s.data.toList k e ≠ [] := by intro h0; rw [h0] at hyes; cases hyes
  obtain ⟨_, hlt⟩ := rs_at hne
  have hlt' : k < s.size := by simpa using hlt
  obtain ⟨r, hr⟩ : ∃ r, rs s.data.toList k e = b :: r := by
    cases hq : rs s.data.toList k e with
    | nil => exact absurd hq hne
    | cons a r => rw [hq] at hyes; simp at hyes; subst hyes; exact ⟨r, rfl⟩
  rw [hr] at HP
  have HP' := Lib.hid (show Calls Tryz.prog 105 #[.pointer (some ⟨g, 0, none⟩)] w fun x w' => x = .returned (.tuple #[.int .u8 (b.toNat : Int), .bool true]) ∧ ∃ n, w' = w.drewN n from HP)
  have HS := Lib.hid h
  clear HP hne hr hyes h ht hlt
  go_enter Tryz.func80, Tryz.ntmps80
  go_wp2_with (go_at_call 105; refine HP'.out.mono ?_; rintro x w' ⟨rfl, n, rfl⟩)
  go_ret
  exact ⟨rfl, (HS.out.drewN n).set1 (k + 1) (by omega), gb_set (gb_draw (gb_refl _ _) n) 1 _⟩
theorem taken_s (g k : Nat) (e : Int) (v : Value) (s : ByteArray) (b : UInt8) (w : World) (h : Sk Ts w g v k e) (ht : Txs w g v s) (hk : k ≤ s.size) (hs : s.size ≤ 100000) (hno : (rs s.data.toList k e).head? ≠ some b) :
    Calls Tryz.prog 80 #[.pointer (some ⟨g, 0, none⟩), .int .u8 (b.toNat : Int)] w fun x w' => x = .returned (.bool false) ∧ Mv Ts g v k e w w' := by
  have HP := peek_s g k e v s w h ht hk hs
  have HS := Lib.hid h
  cases hq : rs s.data.toList k e with
  | nil =>
    rw [hq] at HP
    have HP' := Lib.hid (show Calls Tryz.prog 105 #[.pointer (some ⟨g, 0, none⟩)] w fun x w' => x = .returned (.tuple #[.int .u8 0, .bool false]) ∧ ∃ n, w' = w.drewN n from HP)
    clear HP hq hno h ht hk
    go_enter Tryz.func80, Tryz.ntmps80
    go_wp2_with (go_at_call 105; refine HP'.out.mono ?_; rintro x w' ⟨rfl, n, rfl⟩)
    go_ret
    exact ⟨rfl, Mv.refl HS.out n⟩
  | cons a r =>
    rw [hq] at HP hno
    have hab : ((a.toNat : Int) != (b.toNat : Int)) = true := by
      rw [bne_iff_ne]
      intro h1
      apply hno
      have : a = b := UInt8.toNat_inj.1 (by omega)
      rw [this]; rfl
    have HP' := Lib.hid (show Calls Tryz.prog 105 #[.pointer (some ⟨g, 0, none⟩)] w fun x w' => x = .returned (.tuple #[.int .u8 (a.toNat : Int), .bool true]) ∧ ∃ n, w' = w.drewN n from HP)
    clear HP hq hno h ht hk
    go_enter Tryz.func80, Tryz.ntmps80
    go_wp2_with (go_at_call 105; refine HP'.out.mono ?_; rintro x w' ⟨rfl, n, rfl⟩)
    go_ret
    exact ⟨rfl, Mv.refl HS.out n⟩

theorem takes_s (g k : Nat) (e : Int) (v : Value) (s : ByteArray) (b : UInt8) (w : World) (h : Sk Ts w g v k e) (ht : Txs w g v s) (hk : k ≤ s.size) (hs : s.size ≤ 100000) :
    Calls Tryz.prog 80 #[.pointer (some ⟨g, 0, none⟩), .int .u8 (b.toNat : Int)] w fun x w' =>
      x = .returned (.bool ((rs s.data.toList k e).head? == some b)) ∧ Mv Ts g v (if (rs s.data.toList k e).head? = some b then k + 1 else k) e w w' := by
  by_cases hy : (rs s.data.toList k e).head? = some b
  · rw [if_pos hy, hy, show (some b == some b) = true by simp]
    exact take_s g k e v s b w h ht hk hs hy
  · rw [if_neg hy, show ((rs s.data.toList k e).head? == some b) = false by simpa using hy]
    exact taken_s g k e v s b w h ht hk hs hy
/-- End's error: none or one. -/
theorem end_s (g k : Nat) (e : Int) (v : Value) (s : ByteArray) (w : World) (h : Sk Ts w g v k e) (ht : Txs w g v s) (hk : k ≤ s.size) (hs : s.size ≤ 100000) :
    Calls Tryz.prog 111 #[.pointer (some ⟨g, 0, none⟩)] w fun x w' => x = .returned (ev (enE s.data.toList k e)) ∧ ∃ n, w' = w.drewN n := by
  have HL := Lib.hid (left_s g k e v s w h ht hk hs)
  have HE := Lib.hid (err_s g k e v w h)
  have hl := rs_len s.data.toList k e
  rw [show s.data.toList.length = s.size by simp] at hl
  have q0 := fun op t x k => guard_ev op t w x k
  have q2 := fun k => neq_ev w k
  by_cases h0 : e = 0
  · subst h0
    rw [if_pos rfl] at hl
    by_cases hlt : k < s.size
    · have e1 : enE s.data.toList k 0 = 2 := by unfold enE; rw [if_pos ⟨rfl, by simpa using hlt⟩]
      rw [e1]
      obtain ⟨m, hm⟩ : ∃ m, m = (rs s.data.toList k 0).length := ⟨_, rfl⟩
      rw [← hm] at HL hl
      have hm0 : ((m : Int) > 0) := by omega
      clear hl hm h ht hk e1
      go_enter Tryz.func111, Tryz.ntmps111
      go_wp2_with (first
        | (go_at_call 143; refine HE.out.mono ?_; rintro x w' ⟨rfl, rfl⟩)
        | (go_at_call 107; refine HL.out.mono ?_; rintro x w' ⟨rfl, n, rfl⟩))
      go_ret
      exact ⟨rfl, _, rfl⟩
    · have e1 : enE s.data.toList k 0 = 0 := by unfold enE; rw [if_neg (by simp; omega)]
      rw [e1]
      obtain ⟨m, hm⟩ : ∃ m, m = (rs s.data.toList k 0).length := ⟨_, rfl⟩
      rw [← hm] at HL hl
      have hm0 : ¬ ((m : Int) > 0) := by omega
      clear hl hm h ht hk e1 hlt
      go_enter Tryz.func111, Tryz.ntmps111
      go_wp2_with (first
        | (go_at_call 143; refine HE.out.mono ?_; rintro x w' ⟨rfl, rfl⟩)
        | (go_at_call 107; refine HL.out.mono ?_; rintro x w' ⟨rfl, n, rfl⟩))
      go_ret
      exact ⟨rfl, _, rfl⟩
  · have e1 : enE s.data.toList k e = e := by unfold enE; rw [if_neg (fun h => h0 h.1)]
    rw [e1]
    have hz : (e != 0) = true := bne_iff_ne.mpr h0
    clear hl h ht hk e1 h0 HL
    go_enter Tryz.func111, Tryz.ntmps111
    go_wp2_with (go_at_call 143; refine HE.out.mono ?_; rintro x w' ⟨rfl, rfl⟩)
    go_ret
    exact ⟨rfl, 0, rfl⟩
end Go.Proofs.YtiamggjebaabkaaGreatDoor

namespace Go.Proofs.YtiamggjebaabkaaGreatDoor
open Go.RowKit
set_option linter.unusedVariables false

theorem ev_iface {b : Int} (h : b ≠ 0) : ev b = .iface 53 (.int .i64 b) := by unfold ev; rw [if_neg h]
/-- The first error stays. -/
def flE (e b : Int) : Int := if e = 0 then b else e
theorem fl_zero (b : Int) : flE 0 b = b := rfl
theorem fl_bad {e : Int} (b : Int) (h : e ≠ 0) : flE e b = e := by unfold flE; rw [if_neg h]
def skE (n : Nat) (e many : Int) : Int := if e ≠ 0 then e else if many < 0 then 1 else if (n : Int) < many then 4 else 0
def skK (k n : Nat) (e many : Int) : Nat := if e = 0 ∧ 0 ≤ many ∧ many ≤ (n : Int) then k + many.toNat else k

set_option maxHeartbeats 800000 in
theorem fail_s (g k : Nat) (e b : Int) (u v : Value) (w : World) (h : Sk Ts w g v k e) (hu : u = ev b) (hb : b ≠ 0) :
    Calls Tryz.prog 141 #[.pointer (some ⟨g, 0, none⟩), u] w fun x w' => x = .returned (.tuple #[]) ∧ Mv Ts g v k (flE e b) w w' := by
  have HT := Lib.hid (stopped_s g k e v w h)
  have HS := Lib.hid h
  subst hu
  by_cases h0 : e = 0
  · subst h0
    rw [fl_zero, ev_iface hb]
    have HB := Lib.hid hb; clear hb
    have hz : ((0 : Int) != 0) = false := rfl
    have c2 := h.c2
    have f2 := h.free 2
    clear h
    go_enter Tryz.func141, Tryz.ntmps141
    go_wp2_with (go_at_call 139; refine HT.out.mono ?_; rintro x w' ⟨rfl, rfl⟩)
    go_end0
    refine ⟨rfl, ?_, gb_set (gb_refl _ _) 2 _⟩
    rw [← ev_iface HB.out]
    exact HS.out.set2 b
  · rw [fl_bad b h0]
    have hz : (e != 0) = true := bne_iff_ne.mpr h0
    clear h h0 hb
    go_enter Tryz.func141, Tryz.ntmps141
    go_wp2_with (go_at_call 139; refine HT.out.mono ?_; rintro x w' ⟨rfl, rfl⟩)
    refine bodyPost_ret (results_none rfl _ _ _) rfl ?_
    exact ⟨rfl, HS.out, gb_refl _ _⟩
theorem Mv.then_s {g k k' : Nat} {e e' : Int} {v : Value} {w w1 w2 : World} (h : Mv Ts g v k e w w1) (h2 : Mv Ts g v k' e' w1 w2) : Mv Ts g v k' e' w w2 := ⟨h2.1, h.2.trans h2.2⟩

set_option maxHeartbeats 1600000 in
theorem skip_s (g k : Nat) (e many : Int) (v : Value) (s : ByteArray) (w : World) (h : Sk Ts w g v k e) (ht : Txs w g v s) (hk : k ≤ s.size) (hs : s.size ≤ 100000) (hm : fits many) :
    Calls Tryz.prog 140 #[.pointer (some ⟨g, 0, none⟩), .int .i64 many] w fun x w' =>
      x = .returned (.tuple #[]) ∧ Mv Ts g v (skK k (rs s.data.toList k e).length e many) (skE (rs s.data.toList k e).length e many) w w' := by
  have HT := Lib.hid (stopped_s g k e v w h)
  have HL := left_s g k e v s w h ht hk hs
  have hle := rs_le s.data.toList k e
  have hsl : s.data.toList.length = s.size := by simp
  generalize (rs s.data.toList k e).length = n at *
  have HS := Lib.hid h
  have HL' := Lib.hid HL
  unfold fits at hm
  by_cases h0 : e = 0
  · subst h0
    have hz : ((0 : Int) != 0) = false := rfl
    by_cases hneg : many < 0
    · have e1 : skE n 0 many = 1 := by unfold skE; rw [if_neg (by simp), if_pos hneg]
      have e2 : skK k n 0 many = k := by unfold skK; rw [if_neg (by omega)]
      rw [e1, e2]
      clear e1 e2 h ht HL hle hsl
      go_enter Tryz.func140, Tryz.ntmps140
      go_wp2_with (first
        | (go_at_call 139; refine HT.out.mono ?_; rintro x w1 ⟨rfl, rfl⟩)
        | (go_at_call 141; refine (fail_s g k 0 1 _ v _ HS.out rfl (by decide)).mono ?_; rintro x w2 ⟨rfl, hm2⟩; have HM2 := Lib.hid hm2; clear hm2))
      go_end0
      exact ⟨rfl, HM2.out⟩
    · by_cases hgt : (n : Int) < many
      · have e1 : skE n 0 many = 4 := by unfold skE; rw [if_neg (by simp), if_neg hneg, if_pos hgt]
        have e2 : skK k n 0 many = k := by unfold skK; rw [if_neg (by omega)]
        rw [e1, e2]
        have hgt' : many > (n : Int) := hgt
        clear e1 e2 h ht HL hle hsl
        go_enter Tryz.func140, Tryz.ntmps140
        go_wp2_with (first
          | (go_at_call 139; refine HT.out.mono ?_; rintro x w1 ⟨rfl, rfl⟩)
          | (go_at_call 107; refine HL'.out.mono ?_; rintro x w' ⟨rfl, nq, rfl⟩)
          | (go_at_call 141; refine (fail_s g k 0 4 _ v _ (HS.out.drewN nq) rfl (by decide)).mono ?_; rintro x w2 ⟨rfl, hm2⟩; have HM2 := Lib.hid hm2; clear hm2))
        go_end0
        exact ⟨rfl, (Mv.refl HS.out nq).then_s HM2.out⟩
      · have e1 : skE n 0 many = 0 := by unfold skE; rw [if_neg (by simp), if_neg hneg, if_neg hgt]
        have e2 : skK k n 0 many = k + many.toNat := by unfold skK; rw [if_pos (by omega)]
        rw [e1, e2]
        have hgt' : ¬ many > (n : Int) := hgt
        have c1 := h.c1
        have f1 := h.free 1
        obtain ⟨M, hM⟩ : ∃ M : Nat, M = many.toNat := ⟨_, rfl⟩
        have hmM : many = (M : Int) := by omega
        subst hmM
        simp only [Int.toNat_natCast] at *
        have hMn : k + M ≤ s.size := by omega
        clear e1 e2 h ht HL hle hsl hM
        go_enter Tryz.func140, Tryz.ntmps140
        go_wp2_with (first
          | (go_at_call 139; refine HT.out.mono ?_; rintro x w1 ⟨rfl, rfl⟩)
          | (go_at_call 107; refine HL'.out.mono ?_; rintro x w' ⟨rfl, nq, rfl⟩))
        go_end0
        exact ⟨rfl, (HS.out.drewN nq).set1 (k + M) (by omega), gb_set (gb_draw (gb_refl _ _) _) 1 _⟩
  · have e1 : skE n e many = e := by unfold skE; rw [if_pos h0]
    have e2 : skK k n e many = k := by unfold skK; rw [if_neg (fun h => h0 h.1)]
    rw [e1, e2]
    have hz : (e != 0) = true := bne_iff_ne.mpr h0
    clear e1 e2 h ht HL hle hsl h0
    go_enter Tryz.func140, Tryz.ntmps140
    go_wp2_with (go_at_call 139; refine HT.out.mono ?_; rintro x w1 ⟨rfl, rfl⟩)
    refine bodyPost_ret (results_none rfl _ _ _) rfl ?_
    exact ⟨rfl, HS.out, gb_refl _ _⟩
end Go.Proofs.YtiamggjebaabkaaGreatDoor

namespace Go.Proofs.YtiamggjebaabkaaGreatDoor
open Go.RowKit Go.WideShapes Go.ChangeShapes
set_option linter.unusedVariables false

theorem bsize : ∀ w : World, (sizeOf (Tryz.prog.elem 59)).run Tryz.prog w = .ok 1 w := fun w => by kernel_rfl
theorem bslice : Tryz.prog.underlying 59 = some (.slice (Tryz.prog.elem 59)) := by kernel_rfl
/-- The part from lo to hi of a slice that reads as bytes. -/
theorem part_lh {w : World} {A : Option Addr} {l : List UInt8} {c lo hi : Nat} (h : Rb w A l) (hA : A = none → c = 0) (hc : l.length ≤ c) (h1 : lo ≤ hi) (h2 : hi ≤ l.length) :
    ∃ A' c' m, m = (l.drop lo).take (hi - lo) ∧ (∀ w', (Instr.slice 59 (.slice A l.length c) (some (.int .i64 (lo : Int))) (some (.int .i64 (hi : Int))) none).run Tryz.prog w' = .ok (.slice A' m.length c') w') ∧
      Rb w A' m ∧ (A' = none → c' = 0) ∧ m.length ≤ c' ∧ c' ≤ c ∧ (lo < c → A' = A.map (·.add lo)) := by
  have hm : ((l.drop lo).take (hi - lo)).length = hi - lo := by simp; omega
  refine ⟨if c = lo then A else A.map (·.add lo), c - lo, _, rfl, fun w' => ?_, ?_, ?_, by omega, by omega, fun h => if_neg (by omega)⟩
  · rw [run_slice_lh w' 59 A l.length c bslice .i64 .i64 lo hi (by omega) (by omega) (by omega), bsize]
    simp only [Result.andThen, sliced, Int.toNat_natCast, Nat.mul_one, hm]
  · by_cases hcl : c = lo
    · rw [if_pos hcl]
      have e : (l.drop lo).take (hi - lo) = [] := List.eq_nil_of_length_eq_zero (by omega)
      rw [e]; exact Rb.nil _
    · rw [if_neg hcl]
      cases A with
      | none =>
        rw [h.none_]
        simp only [List.drop_nil, List.take_nil]
        exact Rb.nil _
      | some a =>
        rcases h.2 with h0 | ⟨b, off, e, _⟩
        · have e : l = [] := by unfold nums at h0; simpa using h0
          rw [e]
          simp only [List.drop_nil, List.take_nil]
          exact Rb.nil _
        · injection e with e
          subst e
          have e2 : (⟨b, off, none⟩ : Addr).add lo = ⟨b, off + lo, none⟩ := add_plain ..
          rw [Option.map_some, e2]
          exact (h.drop_ lo).take_ _
  · split
    · intro e; have := hA e; omega
    · intro e
      have : A = none := by simpa using e
      have := hA this; omega
end Go.Proofs.YtiamggjebaabkaaGreatDoor
