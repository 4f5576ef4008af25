/- Merged: ScanD, Part, ScanE. -/
import Derived.Test.YtdonicaiimeleaaGreatDoorGListParses24
import Derived.IntWalk
import Derived.Test.YtdonicaiimeleaaGreatDoorGListParses23
import Derived.Deep.OwnRows
namespace Go.Proofs.YtdonicaiimeleaaGreatDoor
open Go.RowKit
set_option linter.unusedVariables false

theorem ev_iface {b : Int} (h : b ≠ 0) : ev b = .iface 56 (.int .i64 b) := by unfold ev; rw [if_neg h]
/-- The first error stays. -/
def flE (e b : Int) : Int := if e = 0 then b else e
theorem fl_zero (b : Int) : flE 0 b = b := rfl
theorem fl_bad {e : Int} (b : Int) (h : e ≠ 0) : flE e b = e := by unfold flE; rw [if_neg h]
def skE (n : Nat) (e many : Int) : Int := if e ≠ 0 then e else if many < 0 then 1 else if (n : Int) < many then 4 else 0
def skK (k n : Nat) (e many : Int) : Nat := if e = 0 ∧ 0 ≤ many ∧ many ≤ (n : Int) then k + many.toNat else k

set_option maxHeartbeats 800000 in
theorem fail_s (g k : Nat) (e b : Int) (u v : Value) (w : World) (h : Sk Ts w g v k e) (hu : u = ev b) (hb : b ≠ 0) :
    Calls Tryz.prog 95 #[.pointer (some ⟨g, 0, none⟩), u] w fun x w' => x = .returned (.tuple #[]) ∧ Mv Ts g v k (flE e b) w w' := by
  have HT := Lib.hid (stopped_s g k e v w h)
  have HS := Lib.hid h
  subst hu
  by_cases h0 : e = 0
  · subst h0
    rw [fl_zero, ev_iface hb]
    have HB := Lib.hid hb; clear hb
    have hz : ((0 : Int) != 0) = false := rfl
    have c2 := h.c2
    have f2 := h.free 2
    clear h
    go_enter Tryz.func95, Tryz.ntmps95
    go_wp2_with (go_at_call 92; refine HT.out.mono ?_; rintro x w' ⟨rfl, rfl⟩)
    go_end0
    refine ⟨rfl, ?_, gb_set (gb_refl _ _) 2 _⟩
    rw [← ev_iface HB.out]
    exact HS.out.set2 b
  · rw [fl_bad b h0]
    have hz : (e != 0) = true := bne_iff_ne.mpr h0
    clear h h0 hb
    go_enter Tryz.func95, Tryz.ntmps95
    go_wp2_with (go_at_call 92; refine HT.out.mono ?_; rintro x w' ⟨rfl, rfl⟩)
    refine bodyPost_ret (results_none rfl _ _ _) rfl ?_
    exact ⟨rfl, HS.out, gb_refl _ _⟩
theorem Mv.then_s {g k k' : Nat} {e e' : Int} {v : Value} {w w1 w2 : World} (h : Mv Ts g v k e w w1) (h2 : Mv Ts g v k' e' w1 w2) : Mv Ts g v k' e' w w2 := ⟨h2.1, h.2.trans h2.2⟩

set_option maxHeartbeats 1600000 in
theorem skip_s (g k : Nat) (e many : Int) (v : Value) (s : ByteArray) (w : World) (h : Sk Ts w g v k e) (ht : Txs w g v s) (hk : k ≤ s.size) (hs : s.size ≤ 100000) (hm : fits many) :
    Calls Tryz.prog 93 #[.pointer (some ⟨g, 0, none⟩), .int .i64 many] w fun x w' =>
      x = .returned (.tuple #[]) ∧ Mv Ts g v (skK k (rs s.data.toList k e).length e many) (skE (rs s.data.toList k e).length e many) w w' := by
  have HT := Lib.hid (stopped_s g k e v w h)
  have HL := left_s g k e v s w h ht hk hs
  have hle := rs_le s.data.toList k e
  have hsl : s.data.toList.length = s.size := by simp
  generalize (rs s.data.toList k e).length = n at *
  have HS := Lib.hid h
  have HL' := Lib.hid HL
  unfold fits at hm
  by_cases h0 : e = 0
  · subst h0
    have hz : ((0 : Int) != 0) = false := rfl
    by_cases hneg : many < 0
    · have e1 : skE n 0 many = 1 := by unfold skE; rw [if_neg (by simp), if_pos hneg]
      have e2 : skK k n 0 many = k := by unfold skK; rw [if_neg (by omega)]
      rw [e1, e2]
      clear e1 e2 h ht HL hle hsl
      go_enter Tryz.func93, Tryz.ntmps93
      go_wp2_with (first
        | (go_at_call 92; refine HT.out.mono ?_; rintro x w1 ⟨rfl, rfl⟩)
        | (go_at_call 95; refine (fail_s g k 0 1 _ v _ HS.out rfl (by decide)).mono ?_; rintro x w2 ⟨rfl, hm2⟩; have HM2 := Lib.hid hm2; clear hm2))
      go_end0
      exact ⟨rfl, HM2.out⟩
    · by_cases hgt : (n : Int) < many
      · have e1 : skE n 0 many = 4 := by unfold skE; rw [if_neg (by simp), if_neg hneg, if_pos hgt]
        have e2 : skK k n 0 many = k := by unfold skK; rw [if_neg (by omega)]
        rw [e1, e2]
        have hgt' : many > (n : Int) := hgt
        clear e1 e2 h ht HL hle hsl
        go_enter Tryz.func93, Tryz.ntmps93
        go_wp2_with (first
          | (go_at_call 92; refine HT.out.mono ?_; rintro x w1 ⟨rfl, rfl⟩)
          | (go_at_call 64; refine HL'.out.mono ?_; rintro x w' ⟨rfl, nq, rfl⟩)
          | (go_at_call 95; refine (fail_s g k 0 4 _ v _ (HS.out.drewN nq) rfl (by decide)).mono ?_; rintro x w2 ⟨rfl, hm2⟩; have HM2 := Lib.hid hm2; clear hm2))
        go_end0
        exact ⟨rfl, (Mv.refl HS.out nq).then_s HM2.out⟩
      · have e1 : skE n 0 many = 0 := by unfold skE; rw [if_neg (by simp), if_neg hneg, if_neg hgt]
        have e2 : skK k n 0 many = k + many.toNat := by unfold skK; rw [if_pos (by omega)]
        rw [e1, e2]
        have hgt' : ¬ many > (n : Int) := hgt
        have c1 := h.c1
        have f1 := h.free 1
        obtain ⟨M, hM⟩ : ∃ M : Nat, M = many.toNat := ⟨_, rfl⟩
        have hmM : many = (M : Int) := by omega
        subst hmM
        simp only [Int.toNat_natCast] at *
        have hMn : k + M ≤ s.size := by omega
        clear e1 e2 h ht HL hle hsl hM
        go_enter Tryz.func93, Tryz.ntmps93
        go_wp2_with (first
          | (go_at_call 92; refine HT.out.mono ?_; rintro x w1 ⟨rfl, rfl⟩)
          | (go_at_call 64; refine HL'.out.mono ?_; rintro x w' ⟨rfl, nq, rfl⟩))
        go_end0
        exact ⟨rfl, (HS.out.drewN nq).set1 (k + M) (by omega), gb_set (gb_draw (gb_refl _ _) _) 1 _⟩
  · have e1 : skE n e many = e := by unfold skE; rw [if_pos h0]
    have e2 : skK k n e many = k := by unfold skK; rw [if_neg (fun h => h0 h.1)]
    rw [e1, e2]
    have hz : (e != 0) = true := bne_iff_ne.mpr h0
    clear e1 e2 h ht HL hle hsl h0
    go_enter Tryz.func93, Tryz.ntmps93
    go_wp2_with (go_at_call 92; refine HT.out.mono ?_; rintro x w1 ⟨rfl, rfl⟩)
    refine bodyPost_ret (results_none rfl _ _ _) rfl ?_
    exact ⟨rfl, HS.out, gb_refl _ _⟩
end Go.Proofs.YtdonicaiimeleaaGreatDoor

namespace Go.Proofs.YtdonicaiimeleaaGreatDoor
open Go.RowKit Go.WideShapes Go.ChangeShapes
set_option linter.unusedVariables false

theorem bsize : ∀ w : World, (sizeOf (Tryz.prog.elem 84)).run Tryz.prog w = .ok 1 w := fun w => by kernel_rfl
theorem bslice : Tryz.prog.underlying 84 = some (.slice (Tryz.prog.elem 84)) := by kernel_rfl
/-- The part from lo to hi of a slice that reads as bytes. -/
theorem part_lh {w : World} {A : Option Addr} {l : List UInt8} {c lo hi : Nat} (h : Rb w A l) (hA : A = none → c = 0) (hc : l.length ≤ c) (h1 : lo ≤ hi) (h2 : hi ≤ l.length) :
    ∃ A' c' m, m = (l.drop lo).take (hi - lo) ∧ (∀ w', (Instr.slice 84 (.slice A l.length c) (some (.int .i64 (lo : Int))) (some (.int .i64 (hi : Int))) none).run Tryz.prog w' = .ok (.slice A' m.length c') w') ∧
      Rb w A' m ∧ (A' = none → c' = 0) ∧ m.length ≤ c' ∧ c' ≤ c ∧ (lo < c → A' = A.map (·.add lo)) := by
  have hm : ((l.drop lo).take (hi - lo)).length = hi - lo := by simp; omega
  refine ⟨if c = lo then A else A.map (·.add lo), c - lo, _, rfl, fun w' => ?_, ?_, ?_, by omega, by omega, fun h => if_neg (by omega)⟩
  · rw [run_slice_lh w' 84 A l.length c bslice .i64 .i64 lo hi (by omega) (by omega) (by omega), bsize]
    simp only [Result.andThen, sliced, Int.toNat_natCast, Nat.mul_one, hm]
  · by_cases hcl : c = lo
    · rw [if_pos hcl]
      have e : (l.drop lo).take (hi - lo) = [] := List.eq_nil_of_length_eq_zero (by omega)
      rw [e]; exact Rb.nil _
    · rw [if_neg hcl]
      cases A with
      | none =>
        rw [h.none_]
        simp only [List.drop_nil, List.take_nil]
        exact Rb.nil _
      | some a =>
        rcases h.2 with h0 | ⟨b, off, e, _⟩
        · have e : l = [] := by unfold nums at h0; simpa using h0
          rw [e]
          simp only [List.drop_nil, List.take_nil]
          exact Rb.nil _
        · injection e with e
          subst e
          have e2 : (⟨b, off, none⟩ : Addr).add lo = ⟨b, off + lo, none⟩ := add_plain ..
          rw [Option.map_some, e2]
          exact (h.drop_ lo).take_ _
  · split
    · intro e; have := hA e; omega
    · intro e
      have : A = none := by simpa using e
      have := hA this; omega
end Go.Proofs.YtdonicaiimeleaaGreatDoor

namespace Go.Proofs.YtdonicaiimeleaaGreatDoor
open Go.RowKit
set_option linter.unusedVariables false

/-- Figures: the number, where it stands then, the error then. -/
def fgN (r : List UInt8) (e a b : Int) : Int := if e = 0 then ((tkN r a b mx : Nat) : Int) else 0
def fgK (k : Nat) (r : List UInt8) (e a b : Int) : Nat := if e = 0 then k + tkK r a b mx else k
def fgE (r : List UInt8) (e a b : Int) : Int := if e = 0 then tkE r a b mx else e
theorem lead_take (m : Nat) : ∀ l : List UInt8, lead (l.take m) = min (lead l) m := by
  induction m with
  | zero => intro l; simp [lead]
  | succ m ih =>
    intro l
    cases l with
    | nil => simp [lead]
    | cons c r =>
      rw [List.take_succ_cons]
      unfold lead
      rw [ih r]
      split <;> omega
theorem tkk_take (l : List UInt8) (b : Int) (m : Nat) (h : min l.length b.toNat ≤ m) : tkk (l.take m) b = tkk l b ∧ (l.take m).take (tkk l b) = l.take (tkk l b) := by
  have hle := lead_le l
  have h1 : tkk (l.take m) b = tkk l b := by
    unfold tkk; rw [lead_take]; omega
  refine ⟨h1, ?_⟩
  rw [List.take_take]
  congr 1
  unfold tkk; omega
theorem tk_take (l : List UInt8) (a b : Int) (lim m : Nat) (h : min l.length b.toNat ≤ m) : tkE (l.take m) a b lim = tkE l a b lim ∧ tkN (l.take m) a b lim = tkN l a b lim ∧ tkK (l.take m) a b lim = tkK l a b lim := by
  obtain ⟨h1, h2⟩ := tkk_take l b m h
  have e1 : tkE (l.take m) a b lim = tkE l a b lim := by unfold tkE; rw [h1, h2]
  refine ⟨e1, ?_, ?_⟩
  · unfold tkN; rw [e1, h1, h2]
  · unfold tkK; rw [e1, h1]

theorem ftake_in (s : ByteArray) (l : List UInt8) (a b : Int) (w : World) (hsl : s.data.toList = l) (hs : s.size ≤ maxLen) (ha : fits a) (hb : fits b) :
    Calls Tryz.prog 96 #[.string s, .int .i64 a, .int .i64 b] w fun e w' =>
      e = .returned (.tuple #[.int .i64 (tkN l a b mx : Nat), .int .i64 (tkK l a b mx : Nat), ev (tkE l a b mx)]) ∧ w' = w := by
  subst hsl
  exact (ftake_any s a b w hs ha hb).mono fun _ _ ⟨h1, h2⟩ => ⟨h1, h2.symm⟩

set_option maxHeartbeats 1600000 in
theorem figures_s (g k : Nat) (e a b : Int) (v : Value) (s : ByteArray) (w : World) (h : Sk Ts w g v k e) (ht : Txs w g v s) (hk : k ≤ s.size) (hs : s.size ≤ 100000) (ha : fits a) (hb : fits b) :
    Calls Tryz.prog 68 #[.pointer (some ⟨g, 0, none⟩), .int .i64 a, .int .i64 b] w fun x w' =>
      x = .returned (.int .i64 (fgN (rs s.data.toList k e) e a b)) ∧ Mv Ts g v (fgK k (rs s.data.toList k e) e a b) (fgE (rs s.data.toList k e) e a b) w w' := by
  have HT := Lib.hid (stopped_s g k e v w h)
  have HS := Lib.hid h
  by_cases h0 : e = 0
  · subst h0
    have hz : ((0 : Int) != 0) = false := rfl
    have HL := fun n => left_s g k 0 v s (w.drewN n) h ht hk hs
    have hl := rs_len s.data.toList k 0
    have hsl : s.data.toList.length = s.size := by simp
    rw [if_pos rfl, hsl] at hl
    rw [rs_zero] at HL hl ⊢
    have hN : fgN (s.data.toList.drop k) 0 a b = ((tkN (s.data.toList.drop k) a b mx : Nat) : Int) := rfl
    have hK : fgK k (s.data.toList.drop k) 0 a b = k + tkK (s.data.toList.drop k) a b mx := rfl
    have hE : fgE (s.data.toList.drop k) 0 a b = tkE (s.data.toList.drop k) a b mx := rfl
    rw [hN, hK, hE]
    obtain ⟨B, hB⟩ : ∃ B : Nat, B = b.toNat := ⟨_, rfl⟩
    have hmax : max (0 : Int) b = (B : Int) := by omega
    obtain ⟨M, hM⟩ : ∃ M : Nat, M = min (s.size - k) B := ⟨_, rfl⟩
    obtain ⟨m, hm⟩ : ∃ m : Nat, m = (s.data.toList.drop k).length := ⟨_, rfl⟩
    rw [← hm] at HL hl
    have hmin : min (m : Int) (B : Int) = (M : Int) := by omega
    obtain ⟨q, hq⟩ : ∃ q : Nat, q = k + M := ⟨_, rfl⟩
    have hqs : q ≤ s.size := by omega
    have hkq : k ≤ q := by omega
    have hqi : (k : Int) + (M : Int) = (q : Int) := by omega
    have hqw : IntKind.i64.wrap ((k : Int) + (M : Int)) = (q : Int) := by rw [hqi]; simp [IntKind.wrap, IntKind.signed, IntKind.bits]; omega
    have hno : tkE (s.data.toList.drop k) a b mx ≠ 0 → tkN (s.data.toList.drop k) a b mx = 0 ∧ tkK (s.data.toList.drop k) a b mx = 0 := fun hh => tk_no rfl hh
    have hNle := tkN_le (s.data.toList.drop k) a b mx
    obtain ⟨t1, t2, t3⟩ := tk_take (s.data.toList.drop k) a b mx M (by rw [← hm]; omega)
    have hkle := tkK_le (s.data.toList.drop k) a b mx
    rw [← hm, hl] at hkle
    have HC : ∀ w' x, x = (⟨((s.data.toList.drop k).take M).toArray⟩ : ByteArray) → Calls Tryz.prog 96 #[.string x, .int .i64 a, .int .i64 b] w' fun e w'' =>
        e = .returned (.tuple #[.int .i64 (tkN (s.data.toList.drop k) a b mx : Nat), .int .i64 (tkK (s.data.toList.drop k) a b mx : Nat), ev (tkE (s.data.toList.drop k) a b mx)]) ∧ w'' = w' := by
      rintro w' x rfl
      have := ftake_in ⟨((s.data.toList.drop k).take M).toArray⟩ _ a b w' rfl (by rw [Lib.size_mk, List.length_take, ← hm]; unfold maxLen; omega) ha hb
      rw [← t1, ← t2, ← t3]; exact this
    have HCH := Lib.hid HC
    have hXq : s.extract k q = (⟨((s.data.toList.drop k).take M).toArray⟩ : ByteArray) := by
      have : (s.extract k q).data.toList = (s.data.toList.drop k).take M := by
        rw [Lib.extract_data]; simp; omega
      rw [← this]
    have HX := Lib.hid hXq
    have HL' := Lib.hid HL
    have c0 := h.c0
    have c1 := h.c1
    have f1 := h.free 1
    obtain rfl := ht
    
    generalize tkN (s.data.toList.drop k) a b mx = N at *
    generalize tkK (s.data.toList.drop k) a b mx = K at *
    generalize tkE (s.data.toList.drop k) a b mx = E at *
    have q0 := fun W op t x k => guard_ev op t W x k
    have q2 := fun W k => neq_ev W k
    have hNle' : (N : Int) ≤ 9223372036854775807 := by have := mx_is; omega
    clear hNle h HL HC hl hN hK hE hB hM hm hq t1 t2 t3 ha hb hsl hXq 
    by_cases hE0 : E = 0
    · subst hE0
      clear hno
      go_enter Tryz.func68, Tryz.ntmps68
      go_wp2_with (go_at_call 92; refine HT.out.mono ?_; rintro x w' ⟨rfl, rfl⟩)
      go_quiet ((go_at_call 64; exact Calls.quiet_of (HL'.out _)))
      go_wp2
      obtain ⟨W1, hW1⟩ : ∃ W1, W1 = w.drewN nq := ⟨_, rfl⟩
      have HS1 : RowKit.Hid (Sk Ts W1 g (.string s) k 0) := by rw [hW1]; exact HS.out.drewN nq
      have HG1 : RowKit.Hid (w.grownBy W1 (some g)) := by rw [hW1]; exact gb_draw (gb_refl _ _) _
      have d0 := HS1.out.c0
      have d1 := HS1.out.c1
      have g1 := HS1.out.free 1
      
      rw [← hW1]
      clear hW1 c0 c1 f1 
      go_quiet ((go_at_call 96; exact Calls.quiet_of_same (HCH.out _ _ HX.out)))
      go_wp2
      go_ret
      exact ⟨rfl, (HS1.out.drewN _).set1 (k + K) (by omega), gb_set (gb_draw HG1.out _) 1 _⟩
    · obtain ⟨rfl, rfl⟩ := hno hE0
      have hz' : (E != 0) = true := bne_iff_ne.mpr hE0
      have HE0 := Lib.hid hE0
      clear hE0 hno
      go_enter Tryz.func68, Tryz.ntmps68
      go_wp2_with (go_at_call 92; refine HT.out.mono ?_; rintro x w' ⟨rfl, rfl⟩)
      go_quiet ((go_at_call 64; exact Calls.quiet_of (HL'.out _)))
      go_wp2
      obtain ⟨W1, hW1⟩ : ∃ W1, W1 = w.drewN nq := ⟨_, rfl⟩
      have HS1 : RowKit.Hid (Sk Ts W1 g (.string s) k 0) := by rw [hW1]; exact HS.out.drewN nq
      have HG1 : RowKit.Hid (w.grownBy W1 (some g)) := by rw [hW1]; exact gb_draw (gb_refl _ _) _
      have d0 := HS1.out.c0
      have d1 := HS1.out.c1
      have g1 := HS1.out.free 1
      
      rw [← hW1]
      clear hW1 c0 c1 f1 
      go_quiet ((go_at_call 96; exact Calls.quiet_of_same (HCH.out _ _ HX.out)))
      go_wp2_with (go_at_call 95; refine (fail_s g k 0 E _ _ _ (HS1.out.drewN _) rfl HE0.out).mono ?_; rintro x w2 ⟨rfl, hm2⟩; have HM2 := Lib.hid hm2; clear hm2)
      go_ret
      exact ⟨rfl, HM2.out.1, (gb_draw HG1.out _).trans HM2.out.2⟩
  · rw [rs_bad _ _ h0]
    have e1 : fgN [] e a b = 0 := by unfold fgN; rw [if_neg h0]
    have e2 : fgK k [] e a b = k := by unfold fgK; rw [if_neg h0]
    have e3 : fgE [] e a b = e := by unfold fgE; rw [if_neg h0]
    rw [e1, e2, e3]
    have hz : (e != 0) = true := bne_iff_ne.mpr h0
    clear h ht h0 e1 e2 e3
    go_enter Tryz.func68, Tryz.ntmps68
    go_wp2_with (go_at_call 92; refine HT.out.mono ?_; rintro x w' ⟨rfl, rfl⟩)
    go_ret
    exact ⟨rfl, HS.out, gb_refl _ _⟩
end Go.Proofs.YtdonicaiimeleaaGreatDoor
