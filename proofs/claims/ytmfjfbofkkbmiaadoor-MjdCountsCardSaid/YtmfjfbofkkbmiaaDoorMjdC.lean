/- Package mjd: Text, Parse, Five, ParseFive. -/
import Derived.Test.YtmfjfbofkkbmiaaDoorMjdB
namespace Go.Proofs.YtmfjfbofkkbmiaaDoor
open Go.RowKit
set_option linter.unusedVariables false

theorem text7_any (k n : Int) (w : World) (he : Eps w) (ht : Tab w) :
    Calls Tryd.prog 9 #[.int .i64 k, .int .i64 n] w fun e w' => e = .returned (.tuple #[.string ⟨(txL k n).toArray⟩, ev (ctE k n)]) ∧ Below w.heap.size w w' := by
  have H := Lib.hid (count7_any k n w he)
  have hf := ctN_fit k n
  have q0 := fun op t W x k => guard_ev op t W x k
  have q2 := fun W k => neq_ev W k
  have T0 := Lib.hid ht
  clear he ht
  by_cases g : ctE k n = 0
  · have e1 : txL k n = ptL (ctN k n) 0 := if_pos g
    rw [e1, g]
    rw [g] at H
    have HP := Lib.hid (fun w ht => put_any (ctN k n) 0 w hf (by decide) ht)
    have hz : ptE 0 = 0 := by decide +kernel
    rw [hz] at HP
    clear e1 hf g hz
    generalize (⟨(ptL (ctN k n) 0).toArray⟩ : ByteArray) = S at *
    generalize ctN k n = N at *
    go_enter Tryd.func9, Tryd.ntmps9
    go_wp2_with fail
    refine H.out.mono ?_
    rintro e w1 ⟨rfl, hb⟩
    have B1 := Lib.hid hb
    have T1 := Lib.hid (T0.out.below hb); clear hb
    go_wp2_with fail
    refine (HP.out _ T1.out).mono ?_
    rintro e w2 ⟨rfl, hb⟩
    have B2 := Lib.hid (B1.out.trans (hb.mono B1.out.size)); clear hb
    go_wp2_with fail
    go_ret2
    exact ⟨rfl, B2.out⟩
  · have e1 : txL k n = [] := if_neg g
    rw [e1]
    have g := (bne_iff_ne).2 g
    clear hf e1
    generalize ctN k n = N at *
    generalize ctE k n = E at *
    go_enter Tryd.func9, Tryd.ntmps9
    go_wp2_with fail
    refine H.out.mono ?_
    rintro e w1 ⟨rfl, hb⟩
    have B1 := Lib.hid hb; clear hb
    go_wp2_with fail
    go_ret2
    exact ⟨rfl, B1.out⟩

theorem sgN_fit (l : List UInt8) : fits (sgN l 7) := by
  have h1 := mx_is
  have h2 := mxn_is
  unfold sgN fits; split
  · have := whN_le (Lib.trimPrefix l [45]) 1 7 mxn; omega
  · have := whN_le (Lib.trimPrefix l [43]) 1 7 mx; omega
theorem parse7_any (k : Int) (s : ByteArray) (w : World) (he : Eps w) (hs : s.size ≤ maxLen) :
    Calls Tryd.prog 16 #[.int .i64 k, .string s] w fun e w' => e = .returned (.tuple #[.int .i64 (psN k s.data.toList), ev (psE k s.data.toList)]) ∧ Below w.heap.size w w' := by
  have H := Lib.hid (epoch_any k w he)
  have HS := Lib.hid (fun w => signed_any s 7 w hs (by decide))
  have HD := Lib.hid (fun w he => day7_any k (sgN s.data.toList 7) w he (sgN_fit _))
  have q0 := fun op t W x k => guard_ev op t W x k
  have q2 := fun W k => neq_ev W k
  have E0 := Lib.hid he
  clear he hs
  unfold psN psE
  generalize (⟨(ew k).toArray⟩ : ByteArray) = S at *
  generalize ez k = z at *
  by_cases h : kn k
  · rw [if_pos h, if_pos h]
    rw [(kn_yes h).1] at H
    clear h
    generalize dyN k (sgN s.data.toList 7) = n at *
    generalize dyE k (sgN s.data.toList 7) = f at *
    generalize sgE s.data.toList 7 = E at *
    generalize sgN s.data.toList 7 = N at *
    by_cases g : E = 0
    · rw [if_pos g, if_pos g]
      have g := (bne_eq_false_iff_eq).2 g
      go_enter Tryd.func16, Tryd.ntmps16
      go_wp2_with fail
      refine H.out.mono ?_
      rintro e w1 ⟨rfl, hb⟩
      have B1 := Lib.hid hb; clear hb
      go_wp2_with (go_at_call 30; refine (HS.out _).mono ?_; rintro e w' ⟨rfl, rfl⟩)
      have B2 := Lib.hid (B1.out.alloc B1.out.size (Obj.cells #[Value.string S, Value.int IntKind.i64 z] 50))
      refine (HD.out _ (E0.out.below B2.out)).mono ?_
      rintro e w3 ⟨rfl, hb⟩
      have B3 := Lib.hid (B2.out.trans (hb.mono B2.out.size)); clear hb
      go_wp2_with fail
      go_ret2
      exact ⟨rfl, B3.out⟩
    · rw [if_neg g, if_neg g]
      have g := (bne_iff_ne).2 g
      go_enter Tryd.func16, Tryd.ntmps16
      go_wp2_with fail
      refine H.out.mono ?_
      rintro e w1 ⟨rfl, hb⟩
      have B1 := Lib.hid hb; clear hb
      go_wp2_with (go_at_call 30; refine (HS.out _).mono ?_; rintro e w' ⟨rfl, rfl⟩)
      go_ret2
      exact ⟨rfl, B1.out.alloc B1.out.size _⟩
  · rw [if_neg h, if_neg h]
    rw [(kn_no h).2.2] at H
    clear h HS HD
    go_enter Tryd.func16, Tryd.ntmps16
    go_wp2_with fail
    refine H.out.mono ?_
    rintro e w1 ⟨rfl, hb⟩
    have B1 := Lib.hid hb; clear hb
    go_wp2_with fail
    go_ret2
    exact ⟨rfl, B1.out.alloc B1.out.size _⟩

theorem five7_any (n : Int) (w : World) (he : Eps w) (ht : Tab w) :
    Calls Tryd.prog 18 #[.int .i64 n] w fun e w' => e = .returned (.tuple #[.string ⟨(fvL n).toArray⟩, ev (fvE n)]) ∧ Below w.heap.size w w' := by
  have H := Lib.hid (count7_any 1 n w he)
  have hf := ctN_fit 1 n
  have q0 := fun op t W x k => guard_ev op t W x k
  have q2 := fun W k => neq_ev W k
  have T0 := Lib.hid ht
  clear he ht
  by_cases g : ctE 1 n = 0
  · by_cases c : ctN 1 n < 0 ∨ 99999 < ctN 1 n
    · have e0 : fvE n = 1 := by unfold fvE; rw [if_pos g, if_pos c]
      have e1 : fvL n = [] := if_neg (by rw [e0]; decide)
      rw [e1, e0]
      rw [g] at H
      clear e1 e0 hf g
      generalize ctN 1 n = N at *
      rcases (by omega : N < 0 ∨ (¬ N < 0 ∧ N > 99999)) with d | ⟨d, d'⟩
      all_goals
        clear c
        go_enter Tryd.func18, Tryd.ntmps18
        go_wp2_with fail
        refine H.out.mono ?_
        rintro e w1 ⟨rfl, hb⟩
        have B1 := Lib.hid hb; clear hb
        go_wp2_with fail
        go_ret2
        exact ⟨rfl, B1.out⟩
    · have e0 : fvE n = 0 := by unfold fvE; rw [if_pos g, if_neg c]
      have e1 : fvL n = ptL (ctN 1 n) 5 := if_pos e0
      rw [e1, e0]
      rw [g] at H
      have HP := Lib.hid (fun w ht => put_any (ctN 1 n) 5 w hf (by decide) ht)
      have hz : ptE 5 = 0 := by decide +kernel
      rw [hz] at HP
      clear e1 e0 hf g hz
      generalize (⟨(ptL (ctN 1 n) 5).toArray⟩ : ByteArray) = S at *
      generalize ctN 1 n = N at *
      have d1 : ¬ N < 0 := by omega
      have d2 : ¬ N > 99999 := by omega
      clear c
      go_enter Tryd.func18, Tryd.ntmps18
      go_wp2_with fail
      refine H.out.mono ?_
      rintro e w1 ⟨rfl, hb⟩
      have B1 := Lib.hid hb
      have T1 := Lib.hid (T0.out.below hb); clear hb
      go_wp2_with fail
      refine (HP.out _ T1.out).mono ?_
      rintro e w2 ⟨rfl, hb⟩
      have B2 := Lib.hid (B1.out.trans (hb.mono B1.out.size)); clear hb
      go_wp2_with fail
      go_ret2
      exact ⟨rfl, B2.out⟩
  · have e0 : fvE n = ctE 1 n := by unfold fvE; rw [if_neg g]
    have e1 : fvL n = [] := if_neg (by rw [e0]; exact g)
    rw [e1, e0]
    have g := (bne_iff_ne).2 g
    clear e1 e0 hf
    generalize ctN 1 n = N at *
    generalize ctE 1 n = E at *
    go_enter Tryd.func18, Tryd.ntmps18
    go_wp2_with fail
    refine H.out.mono ?_
    rintro e w1 ⟨rfl, hb⟩
    have B1 := Lib.hid hb; clear hb
    go_wp2_with fail
    go_ret2
    exact ⟨rfl, B1.out⟩

theorem parsefive_any (s : ByteArray) (w : World) (he : Eps w) (hs : s.size ≤ maxLen) :
    Calls Tryd.prog 20 #[.string s] w fun e w' => e = .returned (.tuple #[.int .i64 (p5N s.data.toList), ev (p5E s.data.toList)]) ∧ Below w.heap.size w w' := by
  have H := Lib.hid (fun w => fwhole_any s 5 5 w hs (by decide) (by decide))
  have q0 := fun op t W x k => guard_ev op t W x k
  have q2 := fun W k => neq_ev W k
  by_cases h : is5 s.data.toList
  · obtain ⟨e1, e2, e3⟩ := five_yes h
    rw [e1, e2] at H
    have f0 : p5E s.data.toList = 0 := if_pos h
    have f1 : p5N s.data.toList = (dv s.data.toList : Int) - 40587 := if_pos h
    have HD := day7_any 1 (dv s.data.toList : Int) w he (by unfold fits; omega)
    obtain ⟨g1, g2⟩ := dy_yes (k := 1) (c := (dv s.data.toList : Int)) (by decide) (by unfold nod; show ¬ ((dv s.data.toList : Int) - 40587 < _ ∨ _ < (dv s.data.toList : Int) - 40587); omega)
    rw [g1, g2, show ez 1 = 40587 from rfl] at HD
    rw [f0, f1]
    have HD := Lib.hid HD
    clear e1 e2 e3 f0 f1 g1 g2 h he hs
    generalize (dv s.data.toList : Int) - 40587 = m at *
    generalize dv s.data.toList = v at *
    go_enter Tryd.func20, Tryd.ntmps20
    go_wp2_with (go_at_call 32; refine (H.out _).mono ?_; rintro e w' ⟨rfl, rfl⟩)
    refine HD.out.mono ?_
    rintro e w1 ⟨rfl, hb⟩
    have B1 := Lib.hid hb; clear hb
    go_wp2_with fail
    go_ret2
    exact ⟨rfl, B1.out⟩
  · obtain ⟨e1, e2⟩ := five_no h
    rw [e1, e2] at H
    have f0 : p5E s.data.toList = 2 := if_neg h
    have f1 : p5N s.data.toList = 0 := if_neg h
    rw [f0, f1]
    clear e1 e2 f0 f1 h he hs
    go_enter Tryd.func20, Tryd.ntmps20
    go_wp2_with (go_at_call 32; refine (H.out _).mono ?_; rintro e w' ⟨rfl, rfl⟩)
    go_ret2
    exact ⟨rfl, Below.refl _ _⟩

end Go.Proofs.YtmfjfbofkkbmiaaDoor
