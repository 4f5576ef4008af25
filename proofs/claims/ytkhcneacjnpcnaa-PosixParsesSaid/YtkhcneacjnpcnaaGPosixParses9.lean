/- Merged: ScanE. -/
import Derived.Test.YtkhcneacjnpcnaaGPosixParses8
import Derived.Test.YtkhcneacjnpcnaaGPosixParses4
import Derived.Deep.OwnRows
namespace Go.Proofs.Ytkhcneacjnpcnaa
open Go.RowKit
set_option linter.unusedVariables false

/-- Figures: the number, where it stands then, the error then. -/
def fgN (r : List UInt8) (e a b : Int) : Int := if e = 0 then ((tkN r a b mx : Nat) : Int) else 0
def fgK (k : Nat) (r : List UInt8) (e a b : Int) : Nat := if e = 0 then k + tkK r a b mx else k
def fgE (r : List UInt8) (e a b : Int) : Int := if e = 0 then tkE r a b mx else e
theorem lead_take (m : Nat) : ∀ l : List UInt8, lead (l.take m) = min (lead l) m := by
  induction m with
  | zero => intro l; simp [lead]
  | succ m ih =>
    intro l
    cases l with
    | nil => simp [lead]
    | cons c r =>
      rw [List.take_succ_cons]
      unfold lead
      rw [ih r]
      split <;> omega
theorem tkk_take (l : List UInt8) (b : Int) (m : Nat) (h : min l.length b.toNat ≤ m) : tkk (l.take m) b = tkk l b ∧ (l.take m).take (tkk l b) = l.take (tkk l b) := by
  have hle := lead_le l
  have h1 : tkk (l.take m) b = tkk l b := by
    unfold tkk; rw [lead_take]; omega
  refine ⟨h1, ?_⟩
  rw [List.take_take]
  congr 1
  unfold tkk; omega
theorem tk_take (l : List UInt8) (a b : Int) (lim m : Nat) (h : min l.length b.toNat ≤ m) : tkE (l.take m) a b lim = tkE l a b lim ∧ tkN (l.take m) a b lim = tkN l a b lim ∧ tkK (l.take m) a b lim = tkK l a b lim := by
  obtain ⟨h1, h2⟩ := tkk_take l b m h
  have e1 : tkE (l.take m) a b lim = tkE l a b lim := by unfold tkE; rw [h1, h2]
  refine ⟨e1, ?_, ?_⟩
  · unfold tkN; rw [e1, h1, h2]
  · unfold tkK; rw [e1, h1]

theorem ftake_in (s : ByteArray) (l : List UInt8) (a b : Int) (w : World) (hsl : s.data.toList = l) (hs : s.size ≤ maxLen) (ha : fits a) (hb : fits b) :
    Calls Try.prog 66 #[.string s, .int .i64 a, .int .i64 b] w fun e w' =>
      e = .returned (.tuple #[.int .i64 (tkN l a b mx : Nat), .int .i64 (tkK l a b mx : Nat), ev (tkE l a b mx)]) ∧ w' = w := by
  subst hsl
  exact (ftake_any s a b w hs ha hb).mono fun _ _ ⟨h1, h2⟩ => ⟨h1, h2.symm⟩

set_option maxHeartbeats 1600000 in
theorem figures_s (g k : Nat) (e a b : Int) (v : Value) (s : ByteArray) (w : World) (h : Sk Ts w g v k e) (ht : Txs w g v s) (hk : k ≤ s.size) (hs : s.size ≤ 100000) (ha : fits a) (hb : fits b) :
    Calls Try.prog 62 #[.pointer (some ⟨g, 0, none⟩), .int .i64 a, .int .i64 b] w fun x w' =>
      x = .returned (.int .i64 (fgN (rs s.data.toList k e) e a b)) ∧ Mv Ts g v (fgK k (rs s.data.toList k e) e a b) (fgE (rs s.data.toList k e) e a b) w w' := by
  have HT := Lib.hid (stopped_s g k e v w h)
  have HS := Lib.hid h
  by_cases h0 : e = 0
  · subst h0
    have hz : ((0 : Int) != 0) = false := rfl
    have HL := fun n => left_s g k 0 v s (w.drewN n) h ht hk hs
    have hl := rs_len s.data.toList k 0
    have hsl : s.data.toList.length = s.size := by simp
    rw [if_pos rfl, hsl] at hl
    rw [rs_zero] at HL hl ⊢
    have hN : fgN (s.data.toList.drop k) 0 a b = ((tkN (s.data.toList.drop k) a b mx : Nat) : Int) := rfl
    have hK : fgK k (s.data.toList.drop k) 0 a b = k + tkK (s.data.toList.drop k) a b mx := rfl
    have hE : fgE (s.data.toList.drop k) 0 a b = tkE (s.data.toList.drop k) a b mx := rfl
    rw [hN, hK, hE]
    obtain ⟨B, hB⟩ : ∃ B : Nat, B = b.toNat := ⟨_, rfl⟩
    have hmax : max (0 : Int) b = (B : Int) := by omega
    obtain ⟨M, hM⟩ : ∃ M : Nat, M = min (s.size - k) B := ⟨_, rfl⟩
    obtain ⟨m, hm⟩ : ∃ m : Nat, m = (s.data.toList.drop k).length := ⟨_, rfl⟩
    rw [← hm] at HL hl
    have hmin : min (m : Int) (B : Int) = (M : Int) := by omega
    obtain ⟨q, hq⟩ : ∃ q : Nat, q = k + M := ⟨_, rfl⟩
    have hqs : q ≤ s.size := by omega
    have hkq : k ≤ q := by omega
    have hqi : (k : Int) + (M : Int) = (q : Int) := by omega
    have hqw : IntKind.i64.wrap ((k : Int) + (M : Int)) = (q : Int) := by rw [hqi]; simp [IntKind.wrap, IntKind.signed, IntKind.bits]; omega
    have hno : tkE (s.data.toList.drop k) a b mx ≠ 0 → tkN (s.data.toList.drop k) a b mx = 0 ∧ tkK (s.data.toList.drop k) a b mx = 0 := fun hh => tk_no rfl hh
    have hNle := tkN_le (s.data.toList.drop k) a b mx
    obtain ⟨t1, t2, t3⟩ := tk_take (s.data.toList.drop k) a b mx M (by rw [← hm]; omega)
    have hkle := tkK_le (s.data.toList.drop k) a b mx
    rw [← hm, hl] at hkle
    have HC : ∀ w' x, x = (⟨((s.data.toList.drop k).take M).toArray⟩ : ByteArray) → Calls Try.prog 66 #[.string x, .int .i64 a, .int .i64 b] w' fun e w'' =>
        e = .returned (.tuple #[.int .i64 (tkN (s.data.toList.drop k) a b mx : Nat), .int .i64 (tkK (s.data.toList.drop k) a b mx : Nat), ev (tkE (s.data.toList.drop k) a b mx)]) ∧ w'' = w' := by
      rintro w' x rfl
      have := ftake_in ⟨((s.data.toList.drop k).take M).toArray⟩ _ a b w' rfl (by rw [Lib.size_mk, List.length_take, ← hm]; unfold maxLen; omega) ha hb
      rw [← t1, ← t2, ← t3]; exact this
    have HCH := Lib.hid HC
    have hXq : s.extract k q = (⟨((s.data.toList.drop k).take M).toArray⟩ : ByteArray) := by
      have : (s.extract k q).data.toList = (s.data.toList.drop k).take M := by
        rw [Lib.extract_data]; simp; omega
      rw [← this]
    have HX := Lib.hid hXq
    have HL' := Lib.hid HL
    have c0 := h.c0
    have c1 := h.c1
    have f1 := h.free 1
    obtain rfl := ht
    
    generalize tkN (s.data.toList.drop k) a b mx = N at *
    generalize tkK (s.data.toList.drop k) a b mx = K at *
    generalize tkE (s.data.toList.drop k) a b mx = E at *
    have q0 := fun W op t x k => guard_ev op t W x k
    have q2 := fun W k => neq_ev W k
    have hNle' : (N : Int) ≤ 9223372036854775807 := by have := mx_is; omega
    clear hNle h HL HC hl hN hK hE hB hM hm hq t1 t2 t3 ha hb hsl hXq 
    by_cases hE0 : E = 0
    · subst hE0
      clear hno
      go_enter Try.func62, Try.ntmps62
      go_wp2_with (go_at_call 41; refine HT.out.mono ?_; rintro x w' ⟨rfl, rfl⟩)
      go_quiet ((go_at_call 20; exact Calls.quiet_of (HL'.out _)))
      go_wp2
      obtain ⟨W1, hW1⟩ : ∃ W1, W1 = w.drewN nq := ⟨_, rfl⟩
      have HS1 : RowKit.Hid (Sk Ts W1 g (.string s) k 0) := by rw [hW1]; exact HS.out.drewN nq
      have HG1 : RowKit.Hid (w.grownBy W1 (some g)) := by rw [hW1]; exact gb_draw (gb_refl _ _) _
      have d0 := HS1.out.c0
      have d1 := HS1.out.c1
      have g1 := HS1.out.free 1
      
      rw [← hW1]
      clear hW1 c0 c1 f1 
      go_quiet ((go_at_call 66; exact Calls.quiet_of_same (HCH.out _ _ HX.out)))
      go_wp2
      go_ret
      exact ⟨rfl, (HS1.out.drewN _).set1 (k + K) (by omega), gb_set (gb_draw HG1.out _) 1 _⟩
    · obtain ⟨rfl, rfl⟩ := hno hE0
      have hz' : (E != 0) = true := bne_iff_ne.mpr hE0
      have HE0 := Lib.hid hE0
      clear hE0 hno
      go_enter Try.func62, Try.ntmps62
      go_wp2_with (go_at_call 41; refine HT.out.mono ?_; rintro x w' ⟨rfl, rfl⟩)
      go_quiet ((go_at_call 20; exact Calls.quiet_of (HL'.out _)))
      go_wp2
      obtain ⟨W1, hW1⟩ : ∃ W1, W1 = w.drewN nq := ⟨_, rfl⟩
      have HS1 : RowKit.Hid (Sk Ts W1 g (.string s) k 0) := by rw [hW1]; exact HS.out.drewN nq
      have HG1 : RowKit.Hid (w.grownBy W1 (some g)) := by rw [hW1]; exact gb_draw (gb_refl _ _) _
      have d0 := HS1.out.c0
      have d1 := HS1.out.c1
      have g1 := HS1.out.free 1
      
      rw [← hW1]
      clear hW1 c0 c1 f1 
      go_quiet ((go_at_call 66; exact Calls.quiet_of_same (HCH.out _ _ HX.out)))
      go_wp2_with (go_at_call 39; refine (fail_s g k 0 E _ _ _ (HS1.out.drewN _) rfl HE0.out).mono ?_; rintro x w2 ⟨rfl, hm2⟩; have HM2 := Lib.hid hm2; clear hm2)
      go_ret
      exact ⟨rfl, HM2.out.1, (gb_draw HG1.out _).trans HM2.out.2⟩
  · rw [rs_bad _ _ h0]
    have e1 : fgN [] e a b = 0 := by unfold fgN; rw [if_neg h0]
    have e2 : fgK k [] e a b = k := by unfold fgK; rw [if_neg h0]
    have e3 : fgE [] e a b = e := by unfold fgE; rw [if_neg h0]
    rw [e1, e2, e3]
    have hz : (e != 0) = true := bne_iff_ne.mpr h0
    clear h ht h0 e1 e2 e3
    go_enter Try.func62, Try.ntmps62
    go_wp2_with (go_at_call 41; refine HT.out.mono ?_; rintro x w' ⟨rfl, rfl⟩)
    go_ret
    exact ⟨rfl, HS.out, gb_refl _ _⟩
end Go.Proofs.Ytkhcneacjnpcnaa
