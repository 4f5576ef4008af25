/- Merged: ScanD. -/
import Derived.Test.YtkhcneacjnpcnaaGPosixParses7
namespace Go.Proofs.Ytkhcneacjnpcnaa
open Go.RowKit
set_option linter.unusedVariables false

theorem ev_iface {b : Int} (h : b ≠ 0) : ev b = .iface 54 (.int .i64 b) := by unfold ev; rw [if_neg h]
/-- The first error stays. -/
def flE (e b : Int) : Int := if e = 0 then b else e
theorem fl_zero (b : Int) : flE 0 b = b := rfl
theorem fl_bad {e : Int} (b : Int) (h : e ≠ 0) : flE e b = e := by unfold flE; rw [if_neg h]
/-- The error behind Must, behind Skip; the place behind Skip. -/
def muE (r : List UInt8) (e : Int) (w : List UInt8) : Int := if fdT r e w = true then e else flE e 2
set_option maxHeartbeats 800000 in
theorem fail_s (g k : Nat) (e b : Int) (u v : Value) (w : World) (h : Sk Ts w g v k e) (hu : u = ev b) (hb : b ≠ 0) :
    Calls Try.prog 39 #[.pointer (some ⟨g, 0, none⟩), u] w fun x w' => x = .returned (.tuple #[]) ∧ Mv Ts g v k (flE e b) w w' := by
  have HT := Lib.hid (stopped_s g k e v w h)
  have HS := Lib.hid h
  subst hu
  by_cases h0 : e = 0
  · subst h0
    rw [fl_zero, ev_iface hb]
    have HB := Lib.hid hb; clear hb
    have hz : ((0 : Int) != 0) = false := rfl
    have c2 := h.c2
    have f2 := h.free 2
    clear h
    go_enter Try.func39, Try.ntmps39
    go_wp2_with (go_at_call 41; refine HT.out.mono ?_; rintro x w' ⟨rfl, rfl⟩)
    go_end0
    refine ⟨rfl, ?_, gb_set (gb_refl _ _) 2 _⟩
    rw [← ev_iface HB.out]
    exact HS.out.set2 b
  · rw [fl_bad b h0]
    have hz : (e != 0) = true := bne_iff_ne.mpr h0
    clear h h0 hb
    go_enter Try.func39, Try.ntmps39
    go_wp2_with (go_at_call 41; refine HT.out.mono ?_; rintro x w' ⟨rfl, rfl⟩)
    refine bodyPost_ret (results_none rfl _ _ _) rfl ?_
    exact ⟨rfl, HS.out, gb_refl _ _⟩
theorem Mv.then_s {g k k' : Nat} {e e' : Int} {v : Value} {w w1 w2 : World} (h : Mv Ts g v k e w w1) (h2 : Mv Ts g v k' e' w1 w2) : Mv Ts g v k' e' w w2 := ⟨h2.1, h.2.trans h2.2⟩

set_option maxHeartbeats 800000 in
theorem must_s (g k : Nat) (e : Int) (v : Value) (s word : ByteArray) (w : World) (h : Sk Ts w g v k e) (ht : Txs w g v s) (hk : k ≤ s.size) (hs : s.size ≤ 100000) (hw : word.size ≤ 1000) :
    Calls Try.prog 37 #[.pointer (some ⟨g, 0, none⟩), .string word] w fun x w' =>
      x = .returned (.tuple #[]) ∧ Mv Ts g v (fdK k (rs s.data.toList k e) e word.data.toList) (muE (rs s.data.toList k e) e word.data.toList) w w' := by
  have HF := fold_s g k e v s word w h ht hk hs hw
  have HM : muE (rs s.data.toList k e) e word.data.toList = if fdT (rs s.data.toList k e) e word.data.toList = true then e else flE e 2 := rfl
  generalize muE (rs s.data.toList k e) e word.data.toList = E at *
  generalize fdK k (rs s.data.toList k e) e word.data.toList = K at *
  cases hf : fdT (rs s.data.toList k e) e word.data.toList
  · rw [hf] at HF HM
    have hE : E = flE e 2 := HM
    subst hE
    clear HM
    have HF' := Lib.hid HF
    clear HF hf h ht hk hs hw
    go_enter Try.func37, Try.ntmps37
    go_wp2_with (first
      | (go_at_call 51; refine HF'.out.mono ?_; rintro x w1 ⟨rfl, hm⟩; have HM := Lib.hid hm; clear hm)
      | (go_at_call 39; refine (fail_s g K e 2 _ v _ HM.out.1 rfl (by decide)).mono ?_; rintro x w2 ⟨rfl, hm2⟩; have HM2 := Lib.hid hm2; clear hm2))
    go_end0
    exact ⟨rfl, HM.out.then_s HM2.out⟩
  · rw [hf] at HF HM
    have hE : E = e := HM
    subst hE
    clear HM
    have HF' := Lib.hid HF
    clear HF hf h ht hk hs hw
    go_enter Try.func37, Try.ntmps37
    go_wp2_with (go_at_call 51; refine HF'.out.mono ?_; rintro x w1 ⟨rfl, hm⟩; have HM := Lib.hid hm; clear hm)
    go_end0
    exact ⟨rfl, HM.out⟩

end Go.Proofs.Ytkhcneacjnpcnaa
