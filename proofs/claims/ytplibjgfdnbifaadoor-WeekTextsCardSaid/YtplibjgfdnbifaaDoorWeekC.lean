/- Package week: must, takeYear, Parse. -/
import Derived.Test.YtplibjgfdnbifaaDoorWeekP
import Derived.Test.YtplibjgfdnbifaaDoorScanE
namespace Go.Proofs.YtplibjgfdnbifaaDoor
open Go.RowKit
set_option linter.unusedVariables false

theorem rs_head {l : List UInt8} {k : Nat} {e : Int} {b : UInt8} (h : (rs l k e).head? = some b) : k < l.length := (rs_at (e := e) (by intro c; rw [c] at h; cases h)).2
theorem wmK_le (l : List UInt8) (b : UInt8) {k : Nat} (e : Int) (h : k ≤ l.length) : wmK l b k e ≤ l.length := by
  unfold wmK; split
  · next c => have := rs_head c; omega
  · exact h
theorem fgK_le (l : List UInt8) {k : Nat} (e a b : Int) (h : k ≤ l.length) : fgK k (rs l k e) e a b ≤ l.length := by
  unfold fgK; split
  · have h1 := tkK_le (rs l k e) a b mx; have h2 := rs_le l k e; omega
  · exact h
theorem sig_le (l : List UInt8) : sig l ≤ l.length := by
  unfold sig; split
  · next h => cases l with
              | nil => cases h
              | cons a r => simp
  · omega
theorem sig_is (l : List UInt8) : (if (rs l 0 0).head? = some 45 then 0 + 1 else 0) = sig l := by rw [rs_zero, List.drop_zero]; rfl
theorem sig_bool (l : List UInt8) : ((rs l 0 0).head? == some 45) = decide (sig l = 1) := by
  rw [rs_zero, List.drop_zero]; unfold sig
  by_cases c : l.head? = some 45
  · rw [if_pos c, c]; rfl
  · rw [if_neg c]; simpa using c
theorem yN_bd (l : List UInt8) : 0 ≤ yN l ∧ yN l ≤ 9223372036854775807 := by
  unfold yN fgN
  rw [if_pos rfl]
  have := tkN_le (rs l (sig l) 0) 4 5 mx
  have h := mx_is
  omega

theorem wmust_any (g k : Nat) (e : Int) (b : UInt8) (s : ByteArray) (w : World) (h : Sk Ts w g (.string s) k e) (hk : k ≤ s.size) (hs : s.size ≤ 1000) :
    Calls Tryd.prog 37 #[.pointer (some ⟨g, 0, none⟩), .int .u8 (b.toNat : Int)] w fun x w' =>
      x = .returned (.tuple #[]) ∧ Mv Ts g (.string s) (wmK s.data.toList b k e) (wmE s.data.toList b k e) w w' := by
  have HT := takes_s g k e (.string s) s b w h rfl hk hs
  by_cases c : (rs s.data.toList k e).head? = some b
  · have e1 : wmK s.data.toList b k e = k + 1 := if_pos c
    have e2 : wmE s.data.toList b k e = e := if_pos c
    rw [if_pos c, c, show (some b == some b) = true by simp] at HT
    rw [e1, e2]
    have HT' := Lib.hid HT
    clear HT e1 e2 c h
    generalize hv : Value.string s = v at *
    clear hv
    generalize (b.toNat : Int) = z at *
    go_enter Tryd.func37, Tryd.ntmps37
    go_wp2_with (go_at_call 51; refine HT'.out.mono ?_; rintro x w1 ⟨rfl, hm⟩; have HM := Lib.hid hm; clear hm)
    go_end0
    exact ⟨rfl, HM.out⟩
  · have e1 : wmK s.data.toList b k e = k := if_neg c
    have e2 : wmE s.data.toList b k e = flE e 2 := if_neg c
    rw [if_neg c, show ((rs s.data.toList k e).head? == some b) = false by simpa using c] at HT
    rw [e1, e2]
    have HT' := Lib.hid HT
    clear HT e1 e2 c h
    generalize hv : Value.string s = v at *
    clear hv
    generalize (b.toNat : Int) = z at *
    go_enter Tryd.func37, Tryd.ntmps37
    go_wp2_with (first
      | (go_at_call 51; refine HT'.out.mono ?_; rintro x w1 ⟨rfl, hm⟩; have HM := Lib.hid hm; clear hm)
      | (go_at_call 53; refine (fail_s g k e 2 _ v _ HM.out.1 rfl (by decide)).mono ?_; rintro x w2 ⟨rfl, hm2⟩; have HM2 := Lib.hid hm2; clear hm2))
    go_end0
    exact ⟨rfl, HM.out.then_s HM2.out⟩

set_option maxRecDepth 100000 in
set_option maxHeartbeats 1000000 in
theorem takeyear_any (g : Nat) (s : ByteArray) (w : World) (h : Sk Ts w g (.string s) 0 0) (hs : s.size ≤ 1000) :
    Calls Tryd.prog 36 #[.pointer (some ⟨g, 0, none⟩)] w fun x w' =>
      x = .returned (.int .i64 (yV s.data.toList)) ∧ Mv Ts g (.string s) (yF s.data.toList) (yE s.data.toList) w w' := by
  have hsz : s.data.toList.length = s.size := by simp
  have gl := sig_le s.data.toList
  have HT := takes_s g 0 0 (.string s) s 45 w h rfl (Nat.zero_le _) hs
  rw [sig_is, sig_bool] at HT
  have HF : ∀ w1, Sk Ts w1 g (.string s) (sig s.data.toList) 0 → Calls Tryd.prog 38 #[.pointer (some ⟨g, 0, none⟩), .int .i64 4, .int .i64 5] w1 fun x w' =>
      x = .returned (.int .i64 (yN s.data.toList)) ∧ Mv Ts g (.string s) (yF s.data.toList) (yX s.data.toList) w1 w' :=
    fun w1 h1 => figures_s g (sig s.data.toList) 0 4 5 (.string s) s w1 h1 rfl (by omega) hs (by decide) (by decide)
  have nb := yN_bd s.data.toList
  have fb := fgK_le s.data.toList 0 4 5 gl
  have EV : yV s.data.toList = if sig s.data.toList = 1 then -(yN s.data.toList) else yN s.data.toList := rfl
  have EF : ((yF s.data.toList = sig s.data.toList + 5 ∧ yN s.data.toList ≤ 9999) ∨ (sig s.data.toList = 1 ∧ yN s.data.toList = 0)) → yE s.data.toList = flE (yX s.data.toList) 2 := fun c => if_pos c
  have EG : ¬ ((yF s.data.toList = sig s.data.toList + 5 ∧ yN s.data.toList ≤ 9999) ∨ (sig s.data.toList = 1 ∧ yN s.data.toList = 0)) → yE s.data.toList = yX s.data.toList := fun c => if_neg c
  have fb' : yF s.data.toList ≤ s.data.toList.length := fb
  rw [hsz] at gl fb'
  clear fb h hsz
  generalize yV s.data.toList = V at *
  generalize yE s.data.toList = E at *
  generalize yX s.data.toList = X at *
  generalize yF s.data.toList = F at *
  generalize yN s.data.toList = N at *
  generalize sig s.data.toList = G at *
  have cases : (F = G + 5 ∧ N ≤ 9999 ∧ G = 1) ∨ (F = G + 5 ∧ N ≤ 9999 ∧ G ≠ 1) ∨ (F = G + 5 ∧ ¬ N ≤ 9999 ∧ G = 1) ∨ (F = G + 5 ∧ ¬ N ≤ 9999 ∧ G ≠ 1) ∨ (F ≠ G + 5 ∧ G = 1 ∧ N = 0) ∨ (F ≠ G + 5 ∧ G = 1 ∧ N ≠ 0) ∨ (F ≠ G + 5 ∧ G ≠ 1) := by omega
  have HF' := Lib.hid HF
  generalize hv : Value.string s = v at *
  clear HF hv
  rcases cases with ⟨a, b, c⟩ | ⟨a, b, c⟩ | ⟨a, b, c⟩ | ⟨a, b, c⟩ | ⟨a, c, b⟩ | ⟨a, c, b⟩ | ⟨a, c⟩
  · have e1 : E = flE X 2 := EF (by omega)
    have e2 : V = -N := by rw [EV]; exact if_pos c
    rw [decide_eq_true c] at HT
    have t5 : ((F : Int) - (G : Int) == 5) = true := beq_iff_eq.2 (by omega)
    rw [e1, e2]
    have HT' := Lib.hid HT
    clear HT e1 e2 EF EG EV c
    clear a
    go_enter Tryd.func36, Tryd.ntmps36
    go_wp2_with (first
      | (go_at_call 51; refine HT'.out.mono ?_; rintro x w1 ⟨rfl, hm⟩; have M1 := Lib.hid hm; clear hm)
      | (go_at_call 52; refine (at_s g F X v _ M2.out.1).mono ?_; rintro x w' ⟨rfl, rfl⟩)
      | (go_at_call 52; refine (at_s g G 0 v _ M1.out.1).mono ?_; rintro x w' ⟨rfl, rfl⟩)
      | (go_at_call 38; refine (HF'.out _ M1.out.1).mono ?_; rintro x w2 ⟨rfl, hm⟩; have M2 := Lib.hid hm; clear hm)
      | (go_at_call 53; refine (fail_s g F X 2 _ v _ M2.out.1 rfl (by decide)).mono ?_; rintro x w3 ⟨rfl, hm⟩; have M3 := Lib.hid hm; clear hm))
    go_ret
    exact ⟨rfl, (M1.out.then_s M2.out).then_s M3.out⟩
  · have e1 : E = flE X 2 := EF (by omega)
    have e2 : V = N := by rw [EV]; exact if_neg c
    rw [decide_eq_false c] at HT
    have t5 : ((F : Int) - (G : Int) == 5) = true := beq_iff_eq.2 (by omega)
    rw [e1, e2]
    have HT' := Lib.hid HT
    clear HT e1 e2 EF EG EV c
    clear a
    go_enter Tryd.func36, Tryd.ntmps36
    go_wp2_with (first
      | (go_at_call 51; refine HT'.out.mono ?_; rintro x w1 ⟨rfl, hm⟩; have M1 := Lib.hid hm; clear hm)
      | (go_at_call 52; refine (at_s g F X v _ M2.out.1).mono ?_; rintro x w' ⟨rfl, rfl⟩)
      | (go_at_call 52; refine (at_s g G 0 v _ M1.out.1).mono ?_; rintro x w' ⟨rfl, rfl⟩)
      | (go_at_call 38; refine (HF'.out _ M1.out.1).mono ?_; rintro x w2 ⟨rfl, hm⟩; have M2 := Lib.hid hm; clear hm)
      | (go_at_call 53; refine (fail_s g F X 2 _ v _ M2.out.1 rfl (by decide)).mono ?_; rintro x w3 ⟨rfl, hm⟩; have M3 := Lib.hid hm; clear hm))
    go_ret
    exact ⟨rfl, (M1.out.then_s M2.out).then_s M3.out⟩
  · have e1 : E = X := EG (by omega)
    have e2 : V = -N := by rw [EV]; exact if_pos c
    rw [decide_eq_true c] at HT
    have t5 : ((F : Int) - (G : Int) == 5) = true := beq_iff_eq.2 (by omega)
    have tz : (N == 0) = false := beq_eq_false_iff_ne.2 (by omega)
    rw [e1, e2]
    have HT' := Lib.hid HT
    clear HT e1 e2 EF EG EV c
    clear a
    go_enter Tryd.func36, Tryd.ntmps36
    go_wp2_with (first
      | (go_at_call 51; refine HT'.out.mono ?_; rintro x w1 ⟨rfl, hm⟩; have M1 := Lib.hid hm; clear hm)
      | (go_at_call 52; refine (at_s g F X v _ M2.out.1).mono ?_; rintro x w' ⟨rfl, rfl⟩)
      | (go_at_call 52; refine (at_s g G 0 v _ M1.out.1).mono ?_; rintro x w' ⟨rfl, rfl⟩)
      | (go_at_call 38; refine (HF'.out _ M1.out.1).mono ?_; rintro x w2 ⟨rfl, hm⟩; have M2 := Lib.hid hm; clear hm)
      | (go_at_call 53; refine (fail_s g F X 2 _ v _ M2.out.1 rfl (by decide)).mono ?_; rintro x w3 ⟨rfl, hm⟩; have M3 := Lib.hid hm; clear hm))
    go_ret
    exact ⟨rfl, (M1.out.then_s M2.out)⟩
  · have e1 : E = X := EG (by omega)
    have e2 : V = N := by rw [EV]; exact if_neg c
    rw [decide_eq_false c] at HT
    have t5 : ((F : Int) - (G : Int) == 5) = true := beq_iff_eq.2 (by omega)
    rw [e1, e2]
    have HT' := Lib.hid HT
    clear HT e1 e2 EF EG EV c
    clear a
    go_enter Tryd.func36, Tryd.ntmps36
    go_wp2_with (first
      | (go_at_call 51; refine HT'.out.mono ?_; rintro x w1 ⟨rfl, hm⟩; have M1 := Lib.hid hm; clear hm)
      | (go_at_call 52; refine (at_s g F X v _ M2.out.1).mono ?_; rintro x w' ⟨rfl, rfl⟩)
      | (go_at_call 52; refine (at_s g G 0 v _ M1.out.1).mono ?_; rintro x w' ⟨rfl, rfl⟩)
      | (go_at_call 38; refine (HF'.out _ M1.out.1).mono ?_; rintro x w2 ⟨rfl, hm⟩; have M2 := Lib.hid hm; clear hm)
      | (go_at_call 53; refine (fail_s g F X 2 _ v _ M2.out.1 rfl (by decide)).mono ?_; rintro x w3 ⟨rfl, hm⟩; have M3 := Lib.hid hm; clear hm))
    go_ret
    exact ⟨rfl, (M1.out.then_s M2.out)⟩
  · have e1 : E = flE X 2 := EF (by omega)
    have e2 : V = -N := by rw [EV]; exact if_pos c
    rw [decide_eq_true c] at HT
    have t5 : ((F : Int) - (G : Int) == 5) = false := beq_eq_false_iff_ne.2 (by omega)
    have tz : (N == 0) = true := beq_iff_eq.2 (by omega)
    rw [e1, e2]
    have HT' := Lib.hid HT
    clear HT e1 e2 EF EG EV c b
    go_enter Tryd.func36, Tryd.ntmps36
    go_wp2_with (first
      | (go_at_call 51; refine HT'.out.mono ?_; rintro x w1 ⟨rfl, hm⟩; have M1 := Lib.hid hm; clear hm)
      | (go_at_call 52; refine (at_s g F X v _ M2.out.1).mono ?_; rintro x w' ⟨rfl, rfl⟩)
      | (go_at_call 52; refine (at_s g G 0 v _ M1.out.1).mono ?_; rintro x w' ⟨rfl, rfl⟩)
      | (go_at_call 38; refine (HF'.out _ M1.out.1).mono ?_; rintro x w2 ⟨rfl, hm⟩; have M2 := Lib.hid hm; clear hm)
      | (go_at_call 53; refine (fail_s g F X 2 _ v _ M2.out.1 rfl (by decide)).mono ?_; rintro x w3 ⟨rfl, hm⟩; have M3 := Lib.hid hm; clear hm))
    go_ret
    exact ⟨rfl, (M1.out.then_s M2.out).then_s M3.out⟩
  · have e1 : E = X := EG (by omega)
    have e2 : V = -N := by rw [EV]; exact if_pos c
    rw [decide_eq_true c] at HT
    have t5 : ((F : Int) - (G : Int) == 5) = false := beq_eq_false_iff_ne.2 (by omega)
    have tz : (N == 0) = false := beq_eq_false_iff_ne.2 (by omega)
    rw [e1, e2]
    have HT' := Lib.hid HT
    clear HT e1 e2 EF EG EV c
    go_enter Tryd.func36, Tryd.ntmps36
    go_wp2_with (first
      | (go_at_call 51; refine HT'.out.mono ?_; rintro x w1 ⟨rfl, hm⟩; have M1 := Lib.hid hm; clear hm)
      | (go_at_call 52; refine (at_s g F X v _ M2.out.1).mono ?_; rintro x w' ⟨rfl, rfl⟩)
      | (go_at_call 52; refine (at_s g G 0 v _ M1.out.1).mono ?_; rintro x w' ⟨rfl, rfl⟩)
      | (go_at_call 38; refine (HF'.out _ M1.out.1).mono ?_; rintro x w2 ⟨rfl, hm⟩; have M2 := Lib.hid hm; clear hm)
      | (go_at_call 53; refine (fail_s g F X 2 _ v _ M2.out.1 rfl (by decide)).mono ?_; rintro x w3 ⟨rfl, hm⟩; have M3 := Lib.hid hm; clear hm))
    go_ret
    exact ⟨rfl, (M1.out.then_s M2.out)⟩
  · have e1 : E = X := EG (by omega)
    have e2 : V = N := by rw [EV]; exact if_neg c
    rw [decide_eq_false c] at HT
    have t5 : ((F : Int) - (G : Int) == 5) = false := beq_eq_false_iff_ne.2 (by omega)
    rw [e1, e2]
    have HT' := Lib.hid HT
    clear HT e1 e2 EF EG EV c
    go_enter Tryd.func36, Tryd.ntmps36
    go_wp2_with (first
      | (go_at_call 51; refine HT'.out.mono ?_; rintro x w1 ⟨rfl, hm⟩; have M1 := Lib.hid hm; clear hm)
      | (go_at_call 52; refine (at_s g F X v _ M2.out.1).mono ?_; rintro x w' ⟨rfl, rfl⟩)
      | (go_at_call 52; refine (at_s g G 0 v _ M1.out.1).mono ?_; rintro x w' ⟨rfl, rfl⟩)
      | (go_at_call 38; refine (HF'.out _ M1.out.1).mono ?_; rintro x w2 ⟨rfl, hm⟩; have M2 := Lib.hid hm; clear hm)
      | (go_at_call 53; refine (fail_s g F X 2 _ v _ M2.out.1 rfl (by decide)).mono ?_; rintro x w3 ⟨rfl, hm⟩; have M3 := Lib.hid hm; clear hm))
    go_ret
    exact ⟨rfl, (M1.out.then_s M2.out)⟩

theorem new_str (s : ByteArray) (w : World) :
    Calls Tryd.prog 35 #[.string s] w fun x w' => x = .returned (.pointer (some ⟨w.heap.size, 0, none⟩)) ∧ w' = w.alloc (.cells #[.string s, .int .i64 0, .nilIface] Ts) := by
  go_enter Tryd.func35, Tryd.ntmps35
  go_wp2
  go_ret
  exact ⟨rfl, rfl⟩
theorem sk_new (s : ByteArray) (w : World) : Sk Ts (w.alloc (.cells #[.string s, .int .i64 0, .nilIface] Ts)) w.heap.size (.string s) 0 0 := by
  exact heap_alloc_new w _

set_option maxRecDepth 100000 in
set_option maxHeartbeats 1000000 in
theorem wparse_any (s : ByteArray) (w : World) (hs : s.size ≤ 1000) :
    Calls Tryd.prog 22 #[.string s] w fun x w' => x = .returned (.tuple #[.int .i64 (paN s.data.toList), ev (paE s.data.toList)]) ∧ Below w.heap.size w w' := by
  have hsz : s.data.toList.length = s.size := by simp
  obtain ⟨W0, hW0⟩ : ∃ W0, W0 = w.alloc (.cells #[.string s, .int .i64 0, .nilIface] Ts) := ⟨_, rfl⟩
  have hN := new_str s w
  have hK := sk_new s w
  have B0 : Below w.heap.size w (w.alloc (.cells #[.string s, .int .i64 0, .nilIface] Ts)) := (Below.refl _ w).alloc (Nat.le_refl _) _
  rw [← hW0] at hN hK B0
  have hg : w.heap.size ≤ W0.heap.size := B0.size
  obtain ⟨g, eg⟩ : ∃ g, g = w.heap.size := ⟨_, rfl⟩
  rw [← eg] at hN hK hg B0 ⊢
  have HY := takeyear_any g s W0 hK hs
  have f1 : yF s.data.toList ≤ s.size := by
    have gl := sig_le s.data.toList
    have := fgK_le s.data.toList 0 4 5 gl
    rw [hsz] at this; exact this
  obtain ⟨k1, hk1⟩ : ∃ k, k = yF s.data.toList := ⟨_, rfl⟩
  obtain ⟨e1, he1⟩ : ∃ e, e = yE s.data.toList := ⟨_, rfl⟩
  have P := @parse_is s.data.toList
  rw [← hk1] at f1
  rw [← hk1, ← he1] at HY P
  have H2 : ∀ w1, Sk Ts w1 g (.string s) k1 e1 → Calls Tryd.prog 37 #[.pointer (some ⟨g, 0, none⟩), .int .u8 45] w1 fun x w' => x = .returned (.tuple #[]) ∧ Mv Ts g (.string s) (wmK s.data.toList 45 k1 e1) (wmE s.data.toList 45 k1 e1) w1 w' := fun w1 h1 => wmust_any g k1 e1 45 s w1 h1 f1 hs
  have f2 := wmK_le s.data.toList 45 e1 (k := k1) (by omega)
  obtain ⟨k2, hk2⟩ : ∃ k, k = wmK s.data.toList 45 k1 e1 := ⟨_, rfl⟩
  obtain ⟨e2, he2⟩ : ∃ e, e = wmE s.data.toList 45 k1 e1 := ⟨_, rfl⟩
  rw [← hk2] at f2
  rw [← hk2, ← he2] at H2
  have H3 : ∀ w1, Sk Ts w1 g (.string s) k2 e2 → Calls Tryd.prog 37 #[.pointer (some ⟨g, 0, none⟩), .int .u8 87] w1 fun x w' => x = .returned (.tuple #[]) ∧ Mv Ts g (.string s) (wmK s.data.toList 87 k2 e2) (wmE s.data.toList 87 k2 e2) w1 w' := fun w1 h1 => wmust_any g k2 e2 87 s w1 h1 (by omega) hs
  have f3 := wmK_le s.data.toList 87 e2 (k := k2) (by omega)
  obtain ⟨k3, hk3⟩ : ∃ k, k = wmK s.data.toList 87 k2 e2 := ⟨_, rfl⟩
  obtain ⟨e3, he3⟩ : ∃ e, e = wmE s.data.toList 87 k2 e2 := ⟨_, rfl⟩
  rw [← hk3] at f3
  rw [← hk3, ← he3] at H3
  have H4 := fun w1 h1 => figures_s g k3 e3 2 2 (.string s) s w1 h1 rfl (by omega) hs (by decide) (by decide)
  have f4 := fgK_le s.data.toList (k := k3) e3 2 2 (by omega)
  obtain ⟨k4, hk4⟩ : ∃ k, k = fgK k3 (rs s.data.toList k3 e3) e3 2 2 := ⟨_, rfl⟩
  obtain ⟨e4, he4⟩ : ∃ e, e = fgE (rs s.data.toList k3 e3) e3 2 2 := ⟨_, rfl⟩
  obtain ⟨n4, hn4⟩ : ∃ n, n = fgN (rs s.data.toList k3 e3) e3 2 2 := ⟨_, rfl⟩
  rw [← hk4] at f4
  rw [← hk4, ← he4, ← hn4] at H4
  have H5 : ∀ w1, Sk Ts w1 g (.string s) k4 e4 → Calls Tryd.prog 37 #[.pointer (some ⟨g, 0, none⟩), .int .u8 45] w1 fun x w' => x = .returned (.tuple #[]) ∧ Mv Ts g (.string s) (wmK s.data.toList 45 k4 e4) (wmE s.data.toList 45 k4 e4) w1 w' := fun w1 h1 => wmust_any g k4 e4 45 s w1 h1 (by omega) hs
  have f5 := wmK_le s.data.toList 45 e4 (k := k4) (by omega)
  obtain ⟨k5, hk5⟩ : ∃ k, k = wmK s.data.toList 45 k4 e4 := ⟨_, rfl⟩
  obtain ⟨e5, he5⟩ : ∃ e, e = wmE s.data.toList 45 k4 e4 := ⟨_, rfl⟩
  rw [← hk5] at f5
  rw [← hk5, ← he5] at H5
  have H6 := fun w1 h1 => figures_s g k5 e5 1 1 (.string s) s w1 h1 rfl (by omega) hs (by decide) (by decide)
  have f6 := fgK_le s.data.toList (k := k5) e5 1 1 (by omega)
  obtain ⟨k6, hk6⟩ : ∃ k, k = fgK k5 (rs s.data.toList k5 e5) e5 1 1 := ⟨_, rfl⟩
  obtain ⟨e6, he6⟩ : ∃ e, e = fgE (rs s.data.toList k5 e5) e5 1 1 := ⟨_, rfl⟩
  obtain ⟨n6, hn6⟩ : ∃ n, n = fgN (rs s.data.toList k5 e5) e5 1 1 := ⟨_, rfl⟩
  rw [← hk6] at f6
  rw [← hk6, ← he6, ← hn6] at H6
  have H7 := fun w1 h1 => end_s g k6 e6 (.string s) s w1 h1 rfl (by omega) hs
  have P' := P he2 hk2 he3 hk3 he4 hk4 he5 hk5 he6 hk6
  rw [← hn4, ← hn6] at P'
  have G1 : Good s.data.toList → paN s.data.toList = wkN (gY s.data.toList) (gW s.data.toList) (gD s.data.toList) ∧ paE s.data.toList = wkE (gY s.data.toList) (gW s.data.toList) (gD s.data.toList) := fun c => ⟨if_pos c, if_pos c⟩
  have G2 : ¬ Good s.data.toList → paN s.data.toList = 0 ∧ paE s.data.toList = 2 := fun c => ⟨if_neg c, if_neg c⟩
  clear P f1 f2 f3 f4 f5 f6 hk1 he1 hk2 he2 hk3 he3 hk4 he4 hk5 he5 hk6 he6 hn4 hn6 hsz
  obtain ⟨r, hr⟩ : ∃ r, r = enE s.data.toList k6 e6 := ⟨_, rfl⟩
  rw [← hr] at H7 P'
  clear hr
  have fin : (r = 2 ∧ paN s.data.toList = 0 ∧ paE s.data.toList = 2) ∨ (r = 0 ∧ yV s.data.toList = gY s.data.toList ∧ n4 = gW s.data.toList ∧ n6 = gD s.data.toList ∧
      paN s.data.toList = wkN (gY s.data.toList) (gW s.data.toList) (gD s.data.toList) ∧ paE s.data.toList = wkE (gY s.data.toList) (gW s.data.toList) (gD s.data.toList)) := by
    rcases P' with ⟨a, b⟩ | ⟨a, b, c, d, e⟩
    · exact Or.inl ⟨b, G2 a⟩
    · exact Or.inr ⟨b, c, d, e, G1 a⟩
  clear P' G1 G2
  generalize paN s.data.toList = pn at *
  generalize paE s.data.toList = pe at *
  generalize yV s.data.toList = yv at *
  generalize gY s.data.toList = gy at *
  generalize gW s.data.toList = gw at *
  generalize gD s.data.toList = gd at *
  have HN := Lib.hid hN; have HK := Lib.hid hK; have HB := Lib.hid B0; have HG := Lib.hid hg; have HE := Lib.hid eg
  have HY' := Lib.hid HY; have H2' := Lib.hid H2; have H3' := Lib.hid H3; have H4' := Lib.hid H4; have H5' := Lib.hid H5; have H6' := Lib.hid H6; have H7' := Lib.hid H7
  clear hN hK B0 hg eg HY H2 H3 H4 H5 H6 H7 hW0 hs
  have q0 := fun op t W x k => guard_ev op t W x k
  have q2 := fun W k => neq_ev W k
  rcases fin with ⟨rfl, rfl, rfl⟩ | ⟨rfl, rfl, rfl, rfl, rfl, rfl⟩
  · go_enter Tryd.func22, Tryd.ntmps22
    go_wp2_with (first
      | (go_at_call 35; refine HN.out.mono ?_; rintro x w' ⟨rfl, rfl⟩)
      | (go_at_call 36; refine HY'.out.mono ?_; rintro x w1 ⟨rfl, hm⟩; have K1 := Lib.hid hm.1; have M1 := Lib.hid hm; clear hm)
      | (go_at_call 37; ((with_reducible refine (H5'.out _ K4.out).mono ?_); rintro x w5 ⟨rfl, hm⟩; have K5 := Lib.hid hm.1; have M5 := Lib.hid (M4.out.then_s hm); clear hm))
      | (go_at_call 37; ((with_reducible refine (H3'.out _ K2.out).mono ?_); rintro x w3 ⟨rfl, hm⟩; have K3 := Lib.hid hm.1; have M3 := Lib.hid (M2.out.then_s hm); clear hm))
      | (go_at_call 37; ((with_reducible refine (H2'.out _ K1.out).mono ?_); rintro x w2 ⟨rfl, hm⟩; have K2 := Lib.hid hm.1; have M2 := Lib.hid (M1.out.then_s hm); clear hm))
      | (go_at_call 38; ((with_reducible refine (H6'.out _ K5.out).mono ?_); rintro x w6 ⟨rfl, hm⟩; have K6 := Lib.hid hm.1; have M6 := Lib.hid (M5.out.then_s hm); clear hm))
      | (go_at_call 38; ((with_reducible refine (H4'.out _ K3.out).mono ?_); rintro x w4 ⟨rfl, hm⟩; have K4 := Lib.hid hm.1; have M4 := Lib.hid (M3.out.then_s hm); clear hm))
      | (go_at_call 39; refine (H7'.out _ K6.out).mono ?_; rintro x w7 ⟨rfl, nq, rfl⟩)
      | (go_at_call 15; refine (wday_any _ _ _ _).mono ?_; rintro x w' ⟨rfl, rfl⟩))
    go_ret2
    exact ⟨rfl, HB.out.trans ((gb_bel (gb_draw M6.out.2 nq) (Nat.le_refl _) HG.out).mono (Nat.le_refl _))⟩
  · go_enter Tryd.func22, Tryd.ntmps22
    go_wp2_with (first
      | (go_at_call 35; refine HN.out.mono ?_; rintro x w' ⟨rfl, rfl⟩)
      | (go_at_call 36; refine HY'.out.mono ?_; rintro x w1 ⟨rfl, hm⟩; have K1 := Lib.hid hm.1; have M1 := Lib.hid hm; clear hm)
      | (go_at_call 37; ((with_reducible refine (H5'.out _ K4.out).mono ?_); rintro x w5 ⟨rfl, hm⟩; have K5 := Lib.hid hm.1; have M5 := Lib.hid (M4.out.then_s hm); clear hm))
      | (go_at_call 37; ((with_reducible refine (H3'.out _ K2.out).mono ?_); rintro x w3 ⟨rfl, hm⟩; have K3 := Lib.hid hm.1; have M3 := Lib.hid (M2.out.then_s hm); clear hm))
      | (go_at_call 37; ((with_reducible refine (H2'.out _ K1.out).mono ?_); rintro x w2 ⟨rfl, hm⟩; have K2 := Lib.hid hm.1; have M2 := Lib.hid (M1.out.then_s hm); clear hm))
      | (go_at_call 38; ((with_reducible refine (H6'.out _ K5.out).mono ?_); rintro x w6 ⟨rfl, hm⟩; have K6 := Lib.hid hm.1; have M6 := Lib.hid (M5.out.then_s hm); clear hm))
      | (go_at_call 38; ((with_reducible refine (H4'.out _ K3.out).mono ?_); rintro x w4 ⟨rfl, hm⟩; have K4 := Lib.hid hm.1; have M4 := Lib.hid (M3.out.then_s hm); clear hm))
      | (go_at_call 39; refine (H7'.out _ K6.out).mono ?_; rintro x w7 ⟨rfl, nq, rfl⟩)
      | (go_at_call 15; refine (wday_any _ _ _ _).mono ?_; rintro x w' ⟨rfl, rfl⟩))
    go_ret2
    exact ⟨rfl, HB.out.trans ((gb_bel (gb_draw M6.out.2 nq) (Nat.le_refl _) HG.out).mono (Nat.le_refl _))⟩

end Go.Proofs.YtplibjgfdnbifaaDoor
