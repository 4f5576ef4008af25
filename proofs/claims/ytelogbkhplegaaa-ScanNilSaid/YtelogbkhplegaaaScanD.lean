/- Scanners: Fail, Must, Skip, Word. (Written by gen2.py.) -/
import Derived.Test.YtelogbkhplegaaaScanC
namespace Go.Proofs.Ytelogbkhplegaaa
open Go.RowKit
set_option linter.unusedVariables false

theorem ev_iface {b : Int} (h : b ≠ 0) : ev b = .iface 50 (.int .i64 b) := by unfold ev; rw [if_neg h]
/-- The first error stays. -/
def flE (e b : Int) : Int := if e = 0 then b else e
theorem fl_zero (b : Int) : flE 0 b = b := rfl
theorem fl_bad {e : Int} (b : Int) (h : e ≠ 0) : flE e b = e := by unfold flE; rw [if_neg h]
/-- The error behind Must, behind Skip; the place behind Skip. -/
def muE (r : List UInt8) (e : Int) (w : List UInt8) : Int := if fdT r e w = true then e else flE e 2
def skE (n : Nat) (e many : Int) : Int := if e ≠ 0 then e else if many < 0 then 1 else if (n : Int) < many then 4 else 0
def skK (k n : Nat) (e many : Int) : Nat := if e = 0 ∧ 0 ≤ many ∧ many ≤ (n : Int) then k + many.toNat else k

set_option maxHeartbeats 800000 in
theorem fail_s (g k : Nat) (e b : Int) (u v : Value) (w : World) (h : Sk Ts w g v k e) (hu : u = ev b) (hb : b ≠ 0) :
    Calls Try.prog 21 #[.pointer (some ⟨g, 0, none⟩), u] w fun x w' => x = .returned (.tuple #[]) ∧ Mv Ts g v k (flE e b) w w' := by
  have HT := Lib.hid (stopped_s g k e v w h)
  have HS := Lib.hid h
  subst hu
  by_cases h0 : e = 0
  · subst h0
    rw [fl_zero, ev_iface hb]
    have HB := Lib.hid hb; clear hb
    have hz : ((0 : Int) != 0) = false := rfl
    have c2 := h.c2
    have f2 := h.free 2
    clear h
    go_enter Try.func21, Try.ntmps21
    go_wp2_with (go_at_call 54; refine HT.out.mono ?_; rintro x w' ⟨rfl, rfl⟩)
    go_end0
    refine ⟨rfl, ?_, gb_set (gb_refl _ _) 2 _⟩
    rw [← ev_iface HB.out]
    exact HS.out.set2 b
  · rw [fl_bad b h0]
    have hz : (e != 0) = true := bne_iff_ne.mpr h0
    clear h h0 hb
    go_enter Try.func21, Try.ntmps21
    go_wp2_with (go_at_call 54; refine HT.out.mono ?_; rintro x w' ⟨rfl, rfl⟩)
    refine bodyPost_ret (results_none rfl _ _ _) rfl ?_
    exact ⟨rfl, HS.out, gb_refl _ _⟩
theorem Mv.then_s {g k k' : Nat} {e e' : Int} {v : Value} {w w1 w2 : World} (h : Mv Ts g v k e w w1) (h2 : Mv Ts g v k' e' w1 w2) : Mv Ts g v k' e' w w2 := ⟨h2.1, h.2.trans h2.2⟩

set_option maxHeartbeats 800000 in
theorem must_s (g k : Nat) (e : Int) (v : Value) (s word : ByteArray) (w : World) (h : Sk Ts w g v k e) (ht : Txs w g v s) (hk : k ≤ s.size) (hs : s.size ≤ 1000) (hw : word.size ≤ 1000) :
    Calls Try.prog 19 #[.pointer (some ⟨g, 0, none⟩), .string word] w fun x w' =>
      x = .returned (.tuple #[]) ∧ Mv Ts g v (fdK k (rs s.data.toList k e) e word.data.toList) (muE (rs s.data.toList k e) e word.data.toList) w w' := by
  have HF := fold_s g k e v s word w h ht hk hs hw
  have HM : muE (rs s.data.toList k e) e word.data.toList = if fdT (rs s.data.toList k e) e word.data.toList = true then e else flE e 2 := rfl
  generalize muE (rs s.data.toList k e) e word.data.toList = E at *
  generalize fdK k (rs s.data.toList k e) e word.data.toList = K at *
  cases hf : fdT (rs s.data.toList k e) e word.data.toList
  · rw [hf] at HF HM
    have hE : E = flE e 2 := HM
    subst hE
    clear HM
    have HF' := Lib.hid HF
    clear HF hf h ht hk hs hw
    go_enter Try.func19, Try.ntmps19
    go_wp2_with (first
      | (go_at_call 24; refine HF'.out.mono ?_; rintro x w1 ⟨rfl, hm⟩; have HM := Lib.hid hm; clear hm)
      | (go_at_call 21; refine (fail_s g K e 2 _ v _ HM.out.1 rfl (by decide)).mono ?_; rintro x w2 ⟨rfl, hm2⟩; have HM2 := Lib.hid hm2; clear hm2))
    go_end0
    exact ⟨rfl, HM.out.then_s HM2.out⟩
  · rw [hf] at HF HM
    have hE : E = e := HM
    subst hE
    clear HM
    have HF' := Lib.hid HF
    clear HF hf h ht hk hs hw
    go_enter Try.func19, Try.ntmps19
    go_wp2_with (go_at_call 24; refine HF'.out.mono ?_; rintro x w1 ⟨rfl, hm⟩; have HM := Lib.hid hm; clear hm)
    go_end0
    exact ⟨rfl, HM.out⟩

set_option maxHeartbeats 1600000 in
theorem skip_s (g k : Nat) (e many : Int) (v : Value) (s : ByteArray) (w : World) (h : Sk Ts w g v k e) (ht : Txs w g v s) (hk : k ≤ s.size) (hs : s.size ≤ 1000) (hm : fits many) :
    Calls Try.prog 20 #[.pointer (some ⟨g, 0, none⟩), .int .i64 many] w fun x w' =>
      x = .returned (.tuple #[]) ∧ Mv Ts g v (skK k (rs s.data.toList k e).length e many) (skE (rs s.data.toList k e).length e many) w w' := by
  have HT := Lib.hid (stopped_s g k e v w h)
  have HL := left_s g k e v s w h ht hk hs
  have hle := rs_le s.data.toList k e
  have hsl : s.data.toList.length = s.size := by simp
  generalize (rs s.data.toList k e).length = n at *
  have HS := Lib.hid h
  have HL' := Lib.hid HL
  unfold fits at hm
  by_cases h0 : e = 0
  · subst h0
    have hz : ((0 : Int) != 0) = false := rfl
    by_cases hneg : many < 0
    · have e1 : skE n 0 many = 1 := by unfold skE; rw [if_neg (by simp), if_pos hneg]
      have e2 : skK k n 0 many = k := by unfold skK; rw [if_neg (by omega)]
      rw [e1, e2]
      clear e1 e2 h ht HL hle hsl
      go_enter Try.func20, Try.ntmps20
      go_wp2_with (first
        | (go_at_call 54; refine HT.out.mono ?_; rintro x w1 ⟨rfl, rfl⟩)
        | (go_at_call 21; refine (fail_s g k 0 1 _ v _ HS.out rfl (by decide)).mono ?_; rintro x w2 ⟨rfl, hm2⟩; have HM2 := Lib.hid hm2; clear hm2))
      go_end0
      exact ⟨rfl, HM2.out⟩
    · by_cases hgt : (n : Int) < many
      · have e1 : skE n 0 many = 4 := by unfold skE; rw [if_neg (by simp), if_neg hneg, if_pos hgt]
        have e2 : skK k n 0 many = k := by unfold skK; rw [if_neg (by omega)]
        rw [e1, e2]
        have hgt' : many > (n : Int) := hgt
        clear e1 e2 h ht HL hle hsl
        go_enter Try.func20, Try.ntmps20
        go_wp2_with (first
          | (go_at_call 54; refine HT.out.mono ?_; rintro x w1 ⟨rfl, rfl⟩)
          | (go_at_call 18; refine HL'.out.mono ?_; rintro x w' ⟨rfl, nq, rfl⟩)
          | (go_at_call 21; refine (fail_s g k 0 4 _ v _ (HS.out.drewN nq) rfl (by decide)).mono ?_; rintro x w2 ⟨rfl, hm2⟩; have HM2 := Lib.hid hm2; clear hm2))
        go_end0
        exact ⟨rfl, (Mv.refl HS.out nq).then_s HM2.out⟩
      · have e1 : skE n 0 many = 0 := by unfold skE; rw [if_neg (by simp), if_neg hneg, if_neg hgt]
        have e2 : skK k n 0 many = k + many.toNat := by unfold skK; rw [if_pos (by omega)]
        rw [e1, e2]
        have hgt' : ¬ many > (n : Int) := hgt
        have c1 := h.c1
        have f1 := h.free 1
        obtain ⟨M, hM⟩ : ∃ M : Nat, M = many.toNat := ⟨_, rfl⟩
        have hmM : many = (M : Int) := by omega
        subst hmM
        simp only [Int.toNat_natCast] at *
        have hMn : k + M ≤ s.size := by omega
        clear e1 e2 h ht HL hle hsl hM
        go_enter Try.func20, Try.ntmps20
        go_wp2_with (first
          | (go_at_call 54; refine HT.out.mono ?_; rintro x w1 ⟨rfl, rfl⟩)
          | (go_at_call 18; refine HL'.out.mono ?_; rintro x w' ⟨rfl, nq, rfl⟩))
        go_end0
        exact ⟨rfl, (HS.out.drewN nq).set1 (k + M) (by omega), gb_set (gb_draw (gb_refl _ _) _) 1 _⟩
  · have e1 : skE n e many = e := by unfold skE; rw [if_pos h0]
    have e2 : skK k n e many = k := by unfold skK; rw [if_neg (fun h => h0 h.1)]
    rw [e1, e2]
    have hz : (e != 0) = true := bne_iff_ne.mpr h0
    clear e1 e2 h ht HL hle hsl h0
    go_enter Try.func20, Try.ntmps20
    go_wp2_with (go_at_call 54; refine HT.out.mono ?_; rintro x w1 ⟨rfl, rfl⟩)
    refine bodyPost_ret (results_none rfl _ _ _) rfl ?_
    exact ⟨rfl, HS.out, gb_refl _ _⟩
set_option maxHeartbeats 800000 in
theorem fail_b (g k : Nat) (e b : Int) (u v : Value) (w : World) (h : Sk Tb w g v k e) (hu : u = ev b) (hb : b ≠ 0) :
    Calls Try.prog 48 #[.pointer (some ⟨g, 0, none⟩), u] w fun x w' => x = .returned (.tuple #[]) ∧ Mv Tb g v k (flE e b) w w' := by
  have HT := Lib.hid (stopped_b g k e v w h)
  have HS := Lib.hid h
  subst hu
  by_cases h0 : e = 0
  · subst h0
    rw [fl_zero, ev_iface hb]
    have HB := Lib.hid hb; clear hb
    have hz : ((0 : Int) != 0) = false := rfl
    have c2 := h.c2
    have f2 := h.free 2
    clear h
    go_enter Try.func48, Try.ntmps48
    go_wp2_with (go_at_call 60; refine HT.out.mono ?_; rintro x w' ⟨rfl, rfl⟩)
    go_end0
    refine ⟨rfl, ?_, gb_set (gb_refl _ _) 2 _⟩
    rw [← ev_iface HB.out]
    exact HS.out.set2 b
  · rw [fl_bad b h0]
    have hz : (e != 0) = true := bne_iff_ne.mpr h0
    clear h h0 hb
    go_enter Try.func48, Try.ntmps48
    go_wp2_with (go_at_call 60; refine HT.out.mono ?_; rintro x w' ⟨rfl, rfl⟩)
    refine bodyPost_ret (results_none rfl _ _ _) rfl ?_
    exact ⟨rfl, HS.out, gb_refl _ _⟩
theorem Mv.then_b {g k k' : Nat} {e e' : Int} {v : Value} {w w1 w2 : World} (h : Mv Tb g v k e w w1) (h2 : Mv Tb g v k' e' w1 w2) : Mv Tb g v k' e' w w2 := ⟨h2.1, h.2.trans h2.2⟩

set_option maxHeartbeats 800000 in
theorem must_b (g k : Nat) (e : Int) (v : Value) (s word : ByteArray) (w : World) (h : Sk Tb w g v k e) (ht : Txb w g v s) (hk : k ≤ s.size) (hs : s.size ≤ 1000) (hw : word.size ≤ 1000) :
    Calls Try.prog 45 #[.pointer (some ⟨g, 0, none⟩), .string word] w fun x w' =>
      x = .returned (.tuple #[]) ∧ Mv Tb g v (fdK k (rs s.data.toList k e) e word.data.toList) (muE (rs s.data.toList k e) e word.data.toList) w w' := by
  have HF := fold_b g k e v s word w h ht hk hs hw
  have HM : muE (rs s.data.toList k e) e word.data.toList = if fdT (rs s.data.toList k e) e word.data.toList = true then e else flE e 2 := rfl
  generalize muE (rs s.data.toList k e) e word.data.toList = E at *
  generalize fdK k (rs s.data.toList k e) e word.data.toList = K at *
  cases hf : fdT (rs s.data.toList k e) e word.data.toList
  · rw [hf] at HF HM
    have hE : E = flE e 2 := HM
    subst hE
    clear HM
    have HF' := Lib.hid HF
    clear HF hf h ht hk hs hw
    go_enter Try.func45, Try.ntmps45
    go_wp2_with (first
      | (go_at_call 41; refine HF'.out.mono ?_; rintro x w1 ⟨rfl, hm⟩; have HM := Lib.hid hm; clear hm)
      | (go_at_call 48; refine (fail_b g K e 2 _ v _ HM.out.1 rfl (by decide)).mono ?_; rintro x w2 ⟨rfl, hm2⟩; have HM2 := Lib.hid hm2; clear hm2))
    go_end0
    exact ⟨rfl, HM.out.then_b HM2.out⟩
  · rw [hf] at HF HM
    have hE : E = e := HM
    subst hE
    clear HM
    have HF' := Lib.hid HF
    clear HF hf h ht hk hs hw
    go_enter Try.func45, Try.ntmps45
    go_wp2_with (go_at_call 41; refine HF'.out.mono ?_; rintro x w1 ⟨rfl, hm⟩; have HM := Lib.hid hm; clear hm)
    go_end0
    exact ⟨rfl, HM.out⟩

set_option maxHeartbeats 1600000 in
theorem skip_b (g k : Nat) (e many : Int) (v : Value) (s : ByteArray) (w : World) (h : Sk Tb w g v k e) (ht : Txb w g v s) (hk : k ≤ s.size) (hs : s.size ≤ 1000) (hm : fits many) :
    Calls Try.prog 47 #[.pointer (some ⟨g, 0, none⟩), .int .i64 many] w fun x w' =>
      x = .returned (.tuple #[]) ∧ Mv Tb g v (skK k (rs s.data.toList k e).length e many) (skE (rs s.data.toList k e).length e many) w w' := by
  have HT := Lib.hid (stopped_b g k e v w h)
  have HL := left_b g k e v s w h ht hk hs
  have hle := rs_le s.data.toList k e
  have hsl : s.data.toList.length = s.size := by simp
  generalize (rs s.data.toList k e).length = n at *
  have HS := Lib.hid h
  have HL' := Lib.hid HL
  unfold fits at hm
  by_cases h0 : e = 0
  · subst h0
    have hz : ((0 : Int) != 0) = false := rfl
    by_cases hneg : many < 0
    · have e1 : skE n 0 many = 1 := by unfold skE; rw [if_neg (by simp), if_pos hneg]
      have e2 : skK k n 0 many = k := by unfold skK; rw [if_neg (by omega)]
      rw [e1, e2]
      clear e1 e2 h ht HL hle hsl
      go_enter Try.func47, Try.ntmps47
      go_wp2_with (first
        | (go_at_call 60; refine HT.out.mono ?_; rintro x w1 ⟨rfl, rfl⟩)
        | (go_at_call 48; refine (fail_b g k 0 1 _ v _ HS.out rfl (by decide)).mono ?_; rintro x w2 ⟨rfl, hm2⟩; have HM2 := Lib.hid hm2; clear hm2))
      go_end0
      exact ⟨rfl, HM2.out⟩
    · by_cases hgt : (n : Int) < many
      · have e1 : skE n 0 many = 4 := by unfold skE; rw [if_neg (by simp), if_neg hneg, if_pos hgt]
        have e2 : skK k n 0 many = k := by unfold skK; rw [if_neg (by omega)]
        rw [e1, e2]
        have hgt' : many > (n : Int) := hgt
        clear e1 e2 h ht HL hle hsl
        go_enter Try.func47, Try.ntmps47
        go_wp2_with (first
          | (go_at_call 60; refine HT.out.mono ?_; rintro x w1 ⟨rfl, rfl⟩)
          | (go_at_call 61; refine HL'.out.mono ?_; rintro x w' ⟨rfl, nq, rfl⟩)
          | (go_at_call 48; refine (fail_b g k 0 4 _ v _ (HS.out.drewN nq) rfl (by decide)).mono ?_; rintro x w2 ⟨rfl, hm2⟩; have HM2 := Lib.hid hm2; clear hm2))
        go_end0
        exact ⟨rfl, (Mv.refl HS.out nq).then_b HM2.out⟩
      · have e1 : skE n 0 many = 0 := by unfold skE; rw [if_neg (by simp), if_neg hneg, if_neg hgt]
        have e2 : skK k n 0 many = k + many.toNat := by unfold skK; rw [if_pos (by omega)]
        rw [e1, e2]
        have hgt' : ¬ many > (n : Int) := hgt
        have c1 := h.c1
        have f1 := h.free 1
        obtain ⟨M, hM⟩ : ∃ M : Nat, M = many.toNat := ⟨_, rfl⟩
        have hmM : many = (M : Int) := by omega
        subst hmM
        simp only [Int.toNat_natCast] at *
        have hMn : k + M ≤ s.size := by omega
        clear e1 e2 h ht HL hle hsl hM
        go_enter Try.func47, Try.ntmps47
        go_wp2_with (first
          | (go_at_call 60; refine HT.out.mono ?_; rintro x w1 ⟨rfl, rfl⟩)
          | (go_at_call 61; refine HL'.out.mono ?_; rintro x w' ⟨rfl, nq, rfl⟩))
        go_end0
        exact ⟨rfl, (HS.out.drewN nq).set1 (k + M) (by omega), gb_set (gb_draw (gb_refl _ _) _) 1 _⟩
  · have e1 : skE n e many = e := by unfold skE; rw [if_pos h0]
    have e2 : skK k n e many = k := by unfold skK; rw [if_neg (fun h => h0 h.1)]
    rw [e1, e2]
    have hz : (e != 0) = true := bne_iff_ne.mpr h0
    clear e1 e2 h ht HL hle hsl h0
    go_enter Try.func47, Try.ntmps47
    go_wp2_with (go_at_call 60; refine HT.out.mono ?_; rintro x w1 ⟨rfl, rfl⟩)
    refine bodyPost_ret (results_none rfl _ _ _) rfl ?_
    exact ⟨rfl, HS.out, gb_refl _ _⟩
end Go.Proofs.Ytelogbkhplegaaa
