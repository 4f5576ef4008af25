/- Merged: ListZ. -/
import Derived.Test.YtdonicaiimeleaaGreatDoorGListParses43
namespace Go.Proofs.YtdonicaiimeleaaGreatDoor
open Go.RowKit Go.WideShapes Go.ChangeShapes
set_option linter.unusedVariables false
set_option linter.unusedSimpArgs false

/-- What a line does: its error; the list behind it; what else it writes. -/
def AddP (lo q : Nat) (r : Rd11) (l : List UInt8) (w : World) (x : Ending) (w' : World) : Prop := x = .returned (ev (on11 r l)) ∧ (on11 r l = 0 → Ls lo w' q (nx11 r l)) ∧ Fr lo q w w'
/-- What is known when a line comes. -/
structure Ad (lo q : Nat) (r : Rd11) (s : ByteArray) (w : World) : Prop where
  ls : Ls lo w q r
  ql : q < lo
  ll : lo ≤ w.heap.size
  l8 : 7 < lo
  eps : Eps w
  ge : GE w
  few : r.L.length ≤ 90000
  sz : s.size ≤ 100000
  m0 : 0 ≤ r.m
  h0 : 0 ≤ r.h
  s0 : 0 ≤ r.s
theorem new_box (s : ByteArray) (w : World) : ∃ W1, W1 = w.alloc (.cells #[.string s, .int .i64 0, .nilIface] Ts) ∧ Sk Ts W1 w.heap.size (.string s) 0 0 ∧ Below w.heap.size w W1 := by
  refine ⟨_, rfl, heap_alloc_new w _, (Below.refl _ w).alloc (Nat.le_refl _) _⟩
theorem fr_moved {lo q g k : Nat} {w W : World} {v : Value} {e : Int} (h : Sk Ts w g v k e) (hb : w.grownBy W (some g)) (hlo : lo ≤ g) : Fr lo q w W :=
  Fr.grown hb fun j e => by
    injection e with e
    subst e
    refine .inr ⟨hlo, fun o ho => ?_⟩
    have h9 : w.heap[g]? = _ := h
    rw [h9] at ho
    injection ho with ho
    subst ho; rfl
theorem ge_lt {w : World} (h : GE w) : 6 < w.heap.size ∧ 7 < w.heap.size := by
  obtain ⟨⟨v1, q1, -⟩, v2, q2, -⟩ := h
  exact ⟨World.block_lt_of_cell? _ _ q1, World.block_lt_of_cell? _ _ q2⟩

set_option maxRecDepth 100000 in
set_option maxHeartbeats 4000000 in
theorem add_gaps (lo q : Nat) (r : Rd11) (s : ByteArray) (w : World) (a : Ad lo q r s w) (h35 : s.data.toList.head? ≠ some 35) (hw : wdL s.data.toList = []) :
    Calls Tryz.prog 25 #[.pointer (some ⟨q, 0, none⟩), .string s] w (AddP lo q r s.data.toList w) := by
  obtain ⟨W1, hW1, hk1, hb1⟩ := new_box s w
  have HN : Hid (Calls Tryz.prog 41 #[.string s] w fun x w' => x = .returned (.pointer (some ⟨w.heap.size, 0, none⟩)) ∧ w' = W1) := Lib.hid (by rw [hW1]; exact new_s s w)
  have K1 := Lib.hid hk1; have B1 := Lib.hid hb1
  have HA := Lib.hid a
  have LG : Hid (lo ≤ w.heap.size) := Lib.hid a.ll
  have L1 := Lib.hid (a.ls.below hb1)
  have h35' : (s.data.toList.drop 0).head? ≠ some 35 := by rw [List.drop_zero]; exact h35
  have e1 : on11 r s.data.toList = 0 := by unfold on11; rw [if_pos hw]
  have e2 : nx11 r s.data.toList = r := by unfold nx11; rw [if_pos hw]
  have HE := Lib.hid (And.intro e1 e2)
  have HR := Lib.hid (fun w1 h1 => addrow_gaps q w.heap.size s w1 h1 a.sz hw)
  have T35 : Hid (∀ w1, Sk Ts w1 w.heap.size (.string s) 0 0 → Calls Tryz.prog 42 #[.pointer (some ⟨w.heap.size, 0, none⟩), .int .u8 35] w1 fun x w' => x = .returned (.bool false) ∧ Mv Ts w.heap.size (.string s) 0 0 w1 w') := Lib.hid (fun w1 h1 => tkb_no (b := 35) rfl h1 (Nat.zero_le _) HA.out.sz h35')
  clear a hk1 hb1 hW1 h35 h35' hw e1 e2
  go_enter Tryz.func25, Tryz.ntmps25
  go_wp2_with (first
    | (go_at_call 41; refine HN.out.mono ?_; rintro x w' ⟨rfl, rfl⟩)
    | (go_at_call 42; (with_reducible refine (T35.out _ K1.out).mono ?_); clear T35; rintro x w35 ⟨rfl, hm⟩; have S35 := Lib.hid hm.1; have M35 := Lib.hid hm.2; clear hm)
    | (go_at_call 43; refine (HR.out _ S35.out).mono ?_; rintro x w9 ⟨rfl, hm⟩; have M9 := Lib.hid (M35.out.trans hm); clear hm)
    | fail)
  go_ret
  exact ⟨by rw [HE.out.1]; rfl, fun _ => by rw [HE.out.2]; exact L1.out.moved K1.out M9.out, (Fr.below B1.out).trans (fr_moved K1.out M9.out LG.out)⟩

set_option maxRecDepth 100000 in
set_option maxHeartbeats 4000000 in
theorem add_rowbad (lo q : Nat) (r : Rd11) (s : ByteArray) (w : World) (a : Ad lo q r s w) (h35 : s.data.toList.head? ≠ some 35) (hw : wdL s.data.toList ≠ []) (hE : rwE s.data.toList ≠ 0) :
    Calls Tryz.prog 25 #[.pointer (some ⟨q, 0, none⟩), .string s] w (AddP lo q r s.data.toList w) := by
  obtain ⟨W1, hW1, hk1, hb1⟩ := new_box s w
  have HN : Hid (Calls Tryz.prog 41 #[.string s] w fun x w' => x = .returned (.pointer (some ⟨w.heap.size, 0, none⟩)) ∧ w' = W1) := Lib.hid (by rw [hW1]; exact new_s s w)
  have K1 := Lib.hid hk1; have B1 := Lib.hid hb1
  have HA := Lib.hid a
  have LG : Hid (lo ≤ w.heap.size) := Lib.hid a.ll
  have L1 := Lib.hid (a.ls.below hb1)
  have h35' : (s.data.toList.drop 0).head? ≠ some 35 := by rw [List.drop_zero]; exact h35
  have e1 : on11 r s.data.toList = rwE s.data.toList := by
    unfold on11
    rw [if_neg hw, if_neg (take2_no0 h35), if_neg (take2_no0 h35), if_neg (take2_no0 h35), if_neg (fun c => h35 (by rw [List.head?_eq_getElem?]; exact c))]
  have HE := Lib.hid (And.intro e1 hE)
  have HR := Lib.hid (fun w1 h1 => addrow_bad q w.heap.size s w1 h1 a.sz hw hE)
  have T35 : Hid (∀ w1, Sk Ts w1 w.heap.size (.string s) 0 0 → Calls Tryz.prog 42 #[.pointer (some ⟨w.heap.size, 0, none⟩), .int .u8 35] w1 fun x w' => x = .returned (.bool false) ∧ Mv Ts w.heap.size (.string s) 0 0 w1 w') := Lib.hid (fun w1 h1 => tkb_no (b := 35) rfl h1 (Nat.zero_le _) HA.out.sz h35')
  clear a hk1 hb1 hW1 h35 h35' hw hE e1
  go_enter Tryz.func25, Tryz.ntmps25
  go_wp2_with (first
    | (go_at_call 41; refine HN.out.mono ?_; rintro x w' ⟨rfl, rfl⟩)
    | (go_at_call 42; (with_reducible refine (T35.out _ K1.out).mono ?_); clear T35; rintro x w35 ⟨rfl, hm⟩; have S35 := Lib.hid hm.1; have M35 := Lib.hid hm.2; clear hm)
    | (go_at_call 43; refine (HR.out _ S35.out).mono ?_; rintro x w9 ⟨rfl, hm⟩; have M9 := Lib.hid (M35.out.trans hm); clear hm)
    | fail)
  go_ret
  exact ⟨by rw [HE.out.1]; rfl, fun c => absurd (HE.out.1.symm.trans c) HE.out.2, (Fr.below B1.out).trans (fr_moved K1.out M9.out LG.out)⟩

set_option maxRecDepth 100000 in
set_option maxHeartbeats 4000000 in
theorem add_rowgood (lo q : Nat) (r : Rd11) (s : ByteArray) (w : World) (a : Ad lo q r s w) (h35 : s.data.toList.head? ≠ some 35) (hw : wdL s.data.toList ≠ []) (hE : rwE s.data.toList = 0) :
    Calls Tryz.prog 25 #[.pointer (some ⟨q, 0, none⟩), .string s] w (AddP lo q r s.data.toList w) := by
  obtain ⟨W1, hW1, hk1, hb1⟩ := new_box s w
  have HN : Hid (Calls Tryz.prog 41 #[.string s] w fun x w' => x = .returned (.pointer (some ⟨w.heap.size, 0, none⟩)) ∧ w' = W1) := Lib.hid (by rw [hW1]; exact new_s s w)
  have K1 := Lib.hid hk1; have B1 := Lib.hid hb1
  have HA := Lib.hid a
  have LG : Hid (lo ≤ w.heap.size) := Lib.hid a.ll
  have L1 := Lib.hid (a.ls.below hb1)
  have h35' : (s.data.toList.drop 0).head? ≠ some 35 := by rw [List.drop_zero]; exact h35
  have e1 : on11 r s.data.toList = 0 := by
    unfold on11
    rw [if_neg hw, if_neg (take2_no0 h35), if_neg (take2_no0 h35), if_neg (take2_no0 h35), if_neg (fun c => h35 (by rw [List.head?_eq_getElem?]; exact c))]
    exact hE
  have e2 : nx11 r s.data.toList = { r with L := r.L ++ [⟨(rwA s.data.toList : Nat) / 86400 + -25567, (rwO11 s.data.toList : Nat)⟩] } := by
    unfold nx11
    rw [if_neg hw, if_neg (take2_no0 h35), if_neg (take2_no0 h35), if_neg (take2_no0 h35), if_neg (fun c => h35 (by rw [List.head?_eq_getElem?]; exact c))]
  have HE := Lib.hid (And.intro e1 e2)
  have HR : Hid (∀ w1, Ls lo w1 q r → Eps w1 → Sk Ts w1 w.heap.size (.string s) 0 0 → Calls Tryz.prog 43 #[.pointer (some ⟨q, 0, none⟩), .pointer (some ⟨w.heap.size, 0, none⟩)] w1 fun x w' => x = .returned (ev 0) ∧ ∃ W, w1.grownBy W (some w.heap.size) ∧ Ls lo w' q { r with L := r.L ++ [⟨(rwA s.data.toList : Nat) / 86400 + -25567, (rwO11 s.data.toList : Nat)⟩] } ∧ Fr lo q W w') := Lib.hid (fun w1 hl he h1 => by
    obtain ⟨pu, pe, pd, A, c, S, l1, l2, l3, l4, l5, l6⟩ := hl
    have e8 := ge_lt a.ge
    refine (addrow_good lo q w.heap.size A r.L.length c r.L s w1 he h1 a.sz hw hE (bk_cell l1 2) (bk_free l1 2) l4 a.few a.ql a.ll (by have := a.l8; have := a.ll; have : 4 ≤ 7 := (by decide); omega)).mono ?_
    rintro x w' ⟨hx, W, W2, A', n', c', g1, g2, o2, rfl⟩
    have k1 := Ls.moved (lo := lo) (q := q) (r := r) ⟨pu, pe, pd, A, c, S, l1, l2, l3, l4, l5, l6⟩ h1 g1
    have m1 : L4 W q pu pe (.slice A r.L.length c) pd := (g1.block q (bk_lt l1) (by intro c9; injection c9 with c9; have := a.ql; have := a.ll; omega)).trans l1
    have o1 : Ow 43 W lo (.slice A r.L.length c) r.L := l4.kept11 g1 (ty_of h1 (by decide))
    have p2 : Pz lo W pu r.m r.u := l2.kept g1 (ty_of h1 (by decide))
    have p3 : Pz lo W pe r.h r.e := l3.kept g1 (ty_of h1 (by decide))
    have p5 : Pd lo W pd r.s (byt S) := l5.kept g1 (ty_of h1 (by decide))
    have m2 : L4 W2 q pu pe (.slice A r.L.length c) pd := (g2.block q (bk_lt m1) (fun c9 => ty_own o1 (T := 50) (by decide) q c9.symm _ _ m1)).trans m1
    have gb := gb_set (g := q) (gb_refl W2 (some q)) 2 (.slice A' n' c')
    obtain ⟨A9, c9, e9, -, -⟩ := o2.reads
    injection e9 with e9 n9 k9
    subst e9; subst k9
    refine ⟨hx, W, g1, ⟨pu, pe, pd, A', c', S, ?_, (p2.kept g2 (ty_own o1 (by decide))).kept gb (ty_of m2 (by decide)), (p3.kept g2 (ty_own o1 (by decide))).kept gb (ty_of m2 (by decide)), ?_, (p5.kept g2 (ty_own o1 (by decide))).kept gb (ty_of m2 (by decide)), l6⟩, ?_⟩
    · rw [← n9]; exact bk_set m2 2 _
    · rw [← n9]; exact o2.kept11 gb (ty_of m2 (by decide))
    · refine (Fr.grown g2 fun k ek => ?_).trans (Fr.set W2 2 _)
      refine .inr ⟨o1.block k ek, fun o ho => ?_⟩
      rcases o1.2 with ⟨hv, _⟩ | ⟨g', cap, cur, q1, _, q3, _⟩
      · rw [hv] at ek; cases ek
      · rw [q1] at ek
        have ek' : some g' = some k := ek
        injection ek' with ek'
        subst ek'
        rw [q3] at ho
        injection ho with ho
        subst ho; rfl)
  have HEp := Lib.hid (a.eps.below hb1)
  have T35 : Hid (∀ w1, Sk Ts w1 w.heap.size (.string s) 0 0 → Calls Tryz.prog 42 #[.pointer (some ⟨w.heap.size, 0, none⟩), .int .u8 35] w1 fun x w' => x = .returned (.bool false) ∧ Mv Ts w.heap.size (.string s) 0 0 w1 w') := Lib.hid (fun w1 h1 => tkb_no (b := 35) rfl h1 (Nat.zero_le _) HA.out.sz h35')
  clear a hk1 hb1 hW1 h35 h35' hw hE e1 e2
  go_enter Tryz.func25, Tryz.ntmps25
  go_wp2_with (first
    | (go_at_call 41; refine HN.out.mono ?_; rintro x w' ⟨rfl, rfl⟩)
    | (go_at_call 42; (with_reducible refine (T35.out _ K1.out).mono ?_); clear T35; rintro x w35 ⟨rfl, hm⟩; have S35 := Lib.hid hm.1; have M35 := Lib.hid hm.2; clear hm)
    | (go_at_call 43; refine (HR.out _ (L1.out.moved K1.out M35.out) (HEp.out.kept M35.out (by intro c9; injection c9 with c9; have := HA.out.l8; have := HA.out.ll; have : 4 ≤ 7 := (by decide); omega)) S35.out).mono ?_; rintro x w9 ⟨rfl, W, hg, hl, hf⟩; have M9 := Lib.hid (M35.out.trans hg); have L9 := Lib.hid hl; have F9 := Lib.hid hf; clear hg hl hf)
    | fail)
  go_ret
  exact ⟨by rw [HE.out.1]; rfl, fun _ => by rw [HE.out.2]; exact L9.out, ((Fr.below B1.out).trans (fr_moved K1.out M9.out LG.out)).trans F9.out⟩

set_option maxRecDepth 100000 in
set_option maxHeartbeats 4000000 in
theorem add_made_no (lo q : Nat) (r : Rd11) (s : ByteArray) (w : World) (a : Ad lo q r s w) (h35 : s.data.toList.head? = some 35) (h36 : (s.data.toList.drop 1).head? = some 36) (hno : tiE (s.data.toList.drop 2) ≠ 0 ∨ r.m ≠ 0) :
    Calls Tryz.prog 25 #[.pointer (some ⟨q, 0, none⟩), .string s] w (AddP lo q r s.data.toList w) := by
  obtain ⟨W1, hW1, hk1, hb1⟩ := new_box s w
  have HN : Hid (Calls Tryz.prog 41 #[.string s] w fun x w' => x = .returned (.pointer (some ⟨w.heap.size, 0, none⟩)) ∧ w' = W1) := Lib.hid (by rw [hW1]; exact new_s s w)
  have K1 := Lib.hid hk1; have B1 := Lib.hid hb1
  have HA := Lib.hid a
  have LG : Hid (lo ≤ w.heap.size) := Lib.hid a.ll
  have L1 := Lib.hid (a.ls.below hb1)
  have h35' : (s.data.toList.drop 0).head? = some 35 := by rw [List.drop_zero]; exact h35
  have sz0 : 1 ≤ s.size := by
    have : 0 < s.data.toList.length := List.length_pos_iff.2 (fun c => by rw [c] at h35; cases h35)
    have e : s.data.toList.length = s.size := by simp
    omega
  have sz2 : 2 ≤ s.size := by
    have : 0 < (s.data.toList.drop 1).length := List.length_pos_iff.2 (fun c => by rw [c] at h36; cases h36)
    rw [List.length_drop] at this
    have e : s.data.toList.length = s.size := by simp
    omega
  have e1 : on11 r s.data.toList = 2 := by
    unfold on11
    rw [if_neg (sharp_wd h35), if_pos (take2_of h35 h36)]
    unfold twE
    have hp := a.m0
    rcases ti_zt (s.data.toList.drop 2) with hz | hz
    · rw [if_pos hz, if_pos (by rcases hno with c | c; exact absurd hz c; omega)]
    · rw [hz, if_neg (by decide)]
  have HE := Lib.hid e1
  have HO : Hid (∀ w1, Ls lo w1 q r → Sk Ts w1 w.heap.size (.string s) 2 0 → Calls Tryz.prog 44 #[.pointer (some ⟨q, 0, none⟩), .pointer (some ⟨w.heap.size, 0, none⟩), .func (.func 45) #[] #[]] w1 fun x w' => x = .returned (ev 2) ∧ w1.grownBy w' (some w.heap.size)) := Lib.hid (fun w1 hl h1 => by
    obtain ⟨pu, pe, pd, A, c, S, l1, l2, l3, l4, l5, l6⟩ := hl
    exact oncetime_no q 0 _ w.heap.size 2 s w1 h1 sz2 a.sz (bk_cell l1 0) (by have := a.ql; have := a.ll; omega) (hno.imp (fun c => by rw [(tm_is _ _).1]; exact c) (fun c => l2.yes c)))
  have T35 : Hid (∀ w1, Sk Ts w1 w.heap.size (.string s) 0 0 → Calls Tryz.prog 42 #[.pointer (some ⟨w.heap.size, 0, none⟩), .int .u8 35] w1 fun x w' => x = .returned (.bool true) ∧ Mv Ts w.heap.size (.string s) 1 0 w1 w') := Lib.hid (fun w1 h1 => tkb_yes (b := 35) rfl h1 (Nat.zero_le _) HA.out.sz h35')
  have T36 : Hid (∀ w1, Sk Ts w1 w.heap.size (.string s) 1 0 → Calls Tryz.prog 42 #[.pointer (some ⟨w.heap.size, 0, none⟩), .int .u8 36] w1 fun x w' => x = .returned (.bool true) ∧ Mv Ts w.heap.size (.string s) 2 0 w1 w') := Lib.hid (fun w1 h1 => tkb_yes (b := 36) rfl h1 (by have := sz0; omega) HA.out.sz h36)
  clear a hk1 hb1 hW1 h35 h35' h36 sz0 sz2 e1 hno
  go_enter Tryz.func25, Tryz.ntmps25
  go_wp2_with (first
    | (go_at_call 41; refine HN.out.mono ?_; rintro x w' ⟨rfl, rfl⟩)
    | (go_at_call 42; (with_reducible refine (T35.out _ K1.out).mono ?_); clear T35; rintro x w35 ⟨rfl, hm⟩; have S35 := Lib.hid hm.1; have M35 := Lib.hid hm.2; clear hm)
    | (go_at_call 42; (with_reducible refine (T36.out _ S35.out).mono ?_); clear T36; rintro x w36 ⟨rfl, hm⟩; have S36 := Lib.hid hm.1; have M36 := Lib.hid (M35.out.trans hm.2); clear hm)
    | (go_at_call 44; refine (HO.out _ (L1.out.moved K1.out M36.out) S36.out).mono ?_; rintro x w9 ⟨rfl, hm⟩; have M9 := Lib.hid (M36.out.trans hm); clear hm)
    | fail)
  go_ret
  exact ⟨by rw [HE.out]; rfl, fun c => absurd (HE.out.symm.trans c) (by decide), (Fr.below B1.out).trans (fr_moved K1.out M9.out LG.out)⟩

set_option maxRecDepth 100000 in
set_option maxHeartbeats 4000000 in
theorem add_made_yes (lo q : Nat) (r : Rd11) (s : ByteArray) (w : World) (a : Ad lo q r s w) (h35 : s.data.toList.head? = some 35) (h36 : (s.data.toList.drop 1).head? = some 36) (hE : tiE (s.data.toList.drop 2) = 0) (hm9 : r.m = 0) :
    Calls Tryz.prog 25 #[.pointer (some ⟨q, 0, none⟩), .string s] w (AddP lo q r s.data.toList w) := by
  obtain ⟨W1, hW1, hk1, hb1⟩ := new_box s w
  have HN : Hid (Calls Tryz.prog 41 #[.string s] w fun x w' => x = .returned (.pointer (some ⟨w.heap.size, 0, none⟩)) ∧ w' = W1) := Lib.hid (by rw [hW1]; exact new_s s w)
  have K1 := Lib.hid hk1; have B1 := Lib.hid hb1
  have HA := Lib.hid a
  have LG : Hid (lo ≤ w.heap.size) := Lib.hid a.ll
  have L1 := Lib.hid (a.ls.below hb1)
  have h35' : (s.data.toList.drop 0).head? = some 35 := by rw [List.drop_zero]; exact h35
  have sz0 : 1 ≤ s.size := by
    have : 0 < s.data.toList.length := List.length_pos_iff.2 (fun c => by rw [c] at h35; cases h35)
    have e : s.data.toList.length = s.size := by simp
    omega
  have sz2 : 2 ≤ s.size := by
    have : 0 < (s.data.toList.drop 1).length := List.length_pos_iff.2 (fun c => by rw [c] at h36; cases h36)
    rw [List.length_drop] at this
    have e : s.data.toList.length = s.size := by simp
    omega
  have e1 : on11 r s.data.toList = 0 := by
    unfold on11
    rw [if_neg (sharp_wd h35), if_pos (take2_of h35 h36)]
    unfold twE
    rw [if_pos hE, hm9, if_neg (by decide)]
  have e2 : nx11 r s.data.toList = { r with u := (tiN (s.data.toList.drop 2) : Nat), m := r.m + 1 } := by
    unfold nx11
    rw [if_neg (sharp_wd h35), if_pos (take2_of h35 h36)]
  have HE := Lib.hid (And.intro e1 e2)
  have HO : Hid (∀ w1, Ls lo w1 q r → lo ≤ w1.heap.size → Sk Ts w1 w.heap.size (.string s) 2 0 → Calls Tryz.prog 44 #[.pointer (some ⟨q, 0, none⟩), .pointer (some ⟨w.heap.size, 0, none⟩), .func (.func 45) #[] #[]] w1 fun x w' => x = .returned (ev 0) ∧ ∃ W, w1.grownBy W (some w.heap.size) ∧ Ls lo w' q { r with u := (tiN (s.data.toList.drop 2) : Nat), m := r.m + 1 } ∧ Fr lo q W w') := Lib.hid (fun w1 hl hlw h1 => by
    have hl' := hl
    obtain ⟨pu, pe, pd, A, c, S, l1, l2, l3, l4, l5, l6⟩ := hl
    obtain rfl := l2.no hm9
    refine (oncetime_yes q 0 w.heap.size 2 s w1 h1 sz2 a.sz (bk_cell l1 0) (bk_free l1 0) (by have := a.ql; have := a.ll; omega) (by rw [(tm_is _ _).1]; exact hE)).mono ?_
    rintro x w' ⟨hx, W, b, g1, hb, hi, rfl⟩
    rw [(tm_is _ _).2 hE] at hi
    exact ⟨hx, W, g1, (hl'.moved h1 g1).setU hi (Nat.le_trans hlw hb) (by rw [hm9]; decide), Fr.set W 0 _⟩)
  have T35 : Hid (∀ w1, Sk Ts w1 w.heap.size (.string s) 0 0 → Calls Tryz.prog 42 #[.pointer (some ⟨w.heap.size, 0, none⟩), .int .u8 35] w1 fun x w' => x = .returned (.bool true) ∧ Mv Ts w.heap.size (.string s) 1 0 w1 w') := Lib.hid (fun w1 h1 => tkb_yes (b := 35) rfl h1 (Nat.zero_le _) HA.out.sz h35')
  have T36 : Hid (∀ w1, Sk Ts w1 w.heap.size (.string s) 1 0 → Calls Tryz.prog 42 #[.pointer (some ⟨w.heap.size, 0, none⟩), .int .u8 36] w1 fun x w' => x = .returned (.bool true) ∧ Mv Ts w.heap.size (.string s) 2 0 w1 w') := Lib.hid (fun w1 h1 => tkb_yes (b := 36) rfl h1 (by have := sz0; omega) HA.out.sz h36)
  clear a hk1 hb1 hW1 h35 h35' h36 sz0 sz2 e1 e2 hE hm9
  go_enter Tryz.func25, Tryz.ntmps25
  go_wp2_with (first
    | (go_at_call 41; refine HN.out.mono ?_; rintro x w' ⟨rfl, rfl⟩)
    | (go_at_call 42; (with_reducible refine (T35.out _ K1.out).mono ?_); clear T35; rintro x w35 ⟨rfl, hm⟩; have S35 := Lib.hid hm.1; have M35 := Lib.hid hm.2; clear hm)
    | (go_at_call 42; (with_reducible refine (T36.out _ S35.out).mono ?_); clear T36; rintro x w36 ⟨rfl, hm⟩; have S36 := Lib.hid hm.1; have M36 := Lib.hid (M35.out.trans hm.2); clear hm)
    | (go_at_call 44; refine (HO.out _ (L1.out.moved K1.out M36.out) (Nat.le_trans LG.out (Nat.le_trans B1.out.size M36.out.size)) S36.out).mono ?_; rintro x w9 ⟨rfl, W, hg, hl, hf⟩; have M9 := Lib.hid (M36.out.trans hg); have L9 := Lib.hid hl; have F9 := Lib.hid hf; clear hg hl hf)
    | fail)
  go_ret
  exact ⟨by rw [HE.out.1]; rfl, fun _ => by rw [HE.out.2]; exact L9.out, ((Fr.below B1.out).trans (fr_moved K1.out M9.out LG.out)).trans F9.out⟩

set_option maxRecDepth 100000 in
set_option maxHeartbeats 4000000 in
theorem add_hold_no (lo q : Nat) (r : Rd11) (s : ByteArray) (w : World) (a : Ad lo q r s w) (h35 : s.data.toList.head? = some 35) (h36 : (s.data.toList.drop 1).head? ≠ some 36) (h64 : (s.data.toList.drop 1).head? = some 64) (hno : tiE (s.data.toList.drop 2) ≠ 0 ∨ r.h ≠ 0) :
    Calls Tryz.prog 25 #[.pointer (some ⟨q, 0, none⟩), .string s] w (AddP lo q r s.data.toList w) := by
  obtain ⟨W1, hW1, hk1, hb1⟩ := new_box s w
  have HN : Hid (Calls Tryz.prog 41 #[.string s] w fun x w' => x = .returned (.pointer (some ⟨w.heap.size, 0, none⟩)) ∧ w' = W1) := Lib.hid (by rw [hW1]; exact new_s s w)
  have K1 := Lib.hid hk1; have B1 := Lib.hid hb1
  have HA := Lib.hid a
  have LG : Hid (lo ≤ w.heap.size) := Lib.hid a.ll
  have L1 := Lib.hid (a.ls.below hb1)
  have h35' : (s.data.toList.drop 0).head? = some 35 := by rw [List.drop_zero]; exact h35
  have sz0 : 1 ≤ s.size := by
    have : 0 < s.data.toList.length := List.length_pos_iff.2 (fun c => by rw [c] at h35; cases h35)
    have e : s.data.toList.length = s.size := by simp
    omega
  have sz2 : 2 ≤ s.size := by
    have : 0 < (s.data.toList.drop 1).length := List.length_pos_iff.2 (fun c => by rw [c] at h64; cases h64)
    rw [List.length_drop] at this
    have e : s.data.toList.length = s.size := by simp
    omega
  have e1 : on11 r s.data.toList = 2 := by
    unfold on11
    rw [if_neg (sharp_wd h35), if_neg (take2_no h36), if_pos (take2_of h35 h64)]
    unfold twE
    have hp := a.h0
    rcases ti_zt (s.data.toList.drop 2) with hz | hz
    · rw [if_pos hz, if_pos (by rcases hno with c | c; exact absurd hz c; omega)]
    · rw [hz, if_neg (by decide)]
  have HE := Lib.hid e1
  have HO : Hid (∀ w1, Ls lo w1 q r → Sk Ts w1 w.heap.size (.string s) 2 0 → Calls Tryz.prog 44 #[.pointer (some ⟨q, 1, none⟩), .pointer (some ⟨w.heap.size, 0, none⟩), .func (.func 45) #[] #[]] w1 fun x w' => x = .returned (ev 2) ∧ w1.grownBy w' (some w.heap.size)) := Lib.hid (fun w1 hl h1 => by
    obtain ⟨pu, pe, pd, A, c, S, l1, l2, l3, l4, l5, l6⟩ := hl
    exact oncetime_no q 1 _ w.heap.size 2 s w1 h1 sz2 a.sz (bk_cell l1 1) (by have := a.ql; have := a.ll; omega) (hno.imp (fun c => by rw [(tm_is _ _).1]; exact c) (fun c => l3.yes c)))
  have T35 : Hid (∀ w1, Sk Ts w1 w.heap.size (.string s) 0 0 → Calls Tryz.prog 42 #[.pointer (some ⟨w.heap.size, 0, none⟩), .int .u8 35] w1 fun x w' => x = .returned (.bool true) ∧ Mv Ts w.heap.size (.string s) 1 0 w1 w') := Lib.hid (fun w1 h1 => tkb_yes (b := 35) rfl h1 (Nat.zero_le _) HA.out.sz h35')
  have T36 : Hid (∀ w1, Sk Ts w1 w.heap.size (.string s) 1 0 → Calls Tryz.prog 42 #[.pointer (some ⟨w.heap.size, 0, none⟩), .int .u8 36] w1 fun x w' => x = .returned (.bool false) ∧ Mv Ts w.heap.size (.string s) 1 0 w1 w') := Lib.hid (fun w1 h1 => tkb_no (b := 36) rfl h1 (by have := sz0; omega) HA.out.sz h36)
  have T64 : Hid (∀ w1, Sk Ts w1 w.heap.size (.string s) 1 0 → Calls Tryz.prog 42 #[.pointer (some ⟨w.heap.size, 0, none⟩), .int .u8 64] w1 fun x w' => x = .returned (.bool true) ∧ Mv Ts w.heap.size (.string s) 2 0 w1 w') := Lib.hid (fun w1 h1 => tkb_yes (b := 64) rfl h1 (by have := sz0; omega) HA.out.sz h64)
  clear a hk1 hb1 hW1 h35 h35' h36 h64 sz0 sz2 e1 hno
  go_enter Tryz.func25, Tryz.ntmps25
  go_wp2_with (first
    | (go_at_call 41; refine HN.out.mono ?_; rintro x w' ⟨rfl, rfl⟩)
    | (go_at_call 42; (with_reducible refine (T35.out _ K1.out).mono ?_); clear T35; rintro x w35 ⟨rfl, hm⟩; have S35 := Lib.hid hm.1; have M35 := Lib.hid hm.2; clear hm)
    | (go_at_call 42; (with_reducible refine (T36.out _ S35.out).mono ?_); clear T36; rintro x w36 ⟨rfl, hm⟩; have S36 := Lib.hid hm.1; have M36 := Lib.hid (M35.out.trans hm.2); clear hm)
    | (go_at_call 42; (with_reducible refine (T64.out _ S36.out).mono ?_); clear T64; rintro x w64 ⟨rfl, hm⟩; have S64 := Lib.hid hm.1; have M64 := Lib.hid (M36.out.trans hm.2); clear hm)
    | (go_at_call 44; refine (HO.out _ (L1.out.moved K1.out M64.out) S64.out).mono ?_; rintro x w9 ⟨rfl, hm⟩; have M9 := Lib.hid (M64.out.trans hm); clear hm)
    | fail)
  go_ret
  exact ⟨by rw [HE.out]; rfl, fun c => absurd (HE.out.symm.trans c) (by decide), (Fr.below B1.out).trans (fr_moved K1.out M9.out LG.out)⟩

set_option maxRecDepth 100000 in
set_option maxHeartbeats 4000000 in
theorem add_hold_yes (lo q : Nat) (r : Rd11) (s : ByteArray) (w : World) (a : Ad lo q r s w) (h35 : s.data.toList.head? = some 35) (h36 : (s.data.toList.drop 1).head? ≠ some 36) (h64 : (s.data.toList.drop 1).head? = some 64) (hE : tiE (s.data.toList.drop 2) = 0) (hm9 : r.h = 0) :
    Calls Tryz.prog 25 #[.pointer (some ⟨q, 0, none⟩), .string s] w (AddP lo q r s.data.toList w) := by
  obtain ⟨W1, hW1, hk1, hb1⟩ := new_box s w
  have HN : Hid (Calls Tryz.prog 41 #[.string s] w fun x w' => x = .returned (.pointer (some ⟨w.heap.size, 0, none⟩)) ∧ w' = W1) := Lib.hid (by rw [hW1]; exact new_s s w)
  have K1 := Lib.hid hk1; have B1 := Lib.hid hb1
  have HA := Lib.hid a
  have LG : Hid (lo ≤ w.heap.size) := Lib.hid a.ll
  have L1 := Lib.hid (a.ls.below hb1)
  have h35' : (s.data.toList.drop 0).head? = some 35 := by rw [List.drop_zero]; exact h35
  have sz0 : 1 ≤ s.size := by
    have : 0 < s.data.toList.length := List.length_pos_iff.2 (fun c => by rw [c] at h35; cases h35)
    have e : s.data.toList.length = s.size := by simp
    omega
  have sz2 : 2 ≤ s.size := by
    have : 0 < (s.data.toList.drop 1).length := List.length_pos_iff.2 (fun c => by rw [c] at h64; cases h64)
    rw [List.length_drop] at this
    have e : s.data.toList.length = s.size := by simp
    omega
  have e1 : on11 r s.data.toList = 0 := by
    unfold on11
    rw [if_neg (sharp_wd h35), if_neg (take2_no h36), if_pos (take2_of h35 h64)]
    unfold twE
    rw [if_pos hE, hm9, if_neg (by decide)]
  have e2 : nx11 r s.data.toList = { r with e := (tiN (s.data.toList.drop 2) : Nat), h := r.h + 1 } := by
    unfold nx11
    rw [if_neg (sharp_wd h35), if_neg (take2_no h36), if_pos (take2_of h35 h64)]
  have HE := Lib.hid (And.intro e1 e2)
  have HO : Hid (∀ w1, Ls lo w1 q r → lo ≤ w1.heap.size → Sk Ts w1 w.heap.size (.string s) 2 0 → Calls Tryz.prog 44 #[.pointer (some ⟨q, 1, none⟩), .pointer (some ⟨w.heap.size, 0, none⟩), .func (.func 45) #[] #[]] w1 fun x w' => x = .returned (ev 0) ∧ ∃ W, w1.grownBy W (some w.heap.size) ∧ Ls lo w' q { r with e := (tiN (s.data.toList.drop 2) : Nat), h := r.h + 1 } ∧ Fr lo q W w') := Lib.hid (fun w1 hl hlw h1 => by
    have hl' := hl
    obtain ⟨pu, pe, pd, A, c, S, l1, l2, l3, l4, l5, l6⟩ := hl
    obtain rfl := l3.no hm9
    refine (oncetime_yes q 1 w.heap.size 2 s w1 h1 sz2 a.sz (bk_cell l1 1) (bk_free l1 1) (by have := a.ql; have := a.ll; omega) (by rw [(tm_is _ _).1]; exact hE)).mono ?_
    rintro x w' ⟨hx, W, b, g1, hb, hi, rfl⟩
    rw [(tm_is _ _).2 hE] at hi
    exact ⟨hx, W, g1, (hl'.moved h1 g1).setE hi (Nat.le_trans hlw hb) (by rw [hm9]; decide), Fr.set W 1 _⟩)
  have T35 : Hid (∀ w1, Sk Ts w1 w.heap.size (.string s) 0 0 → Calls Tryz.prog 42 #[.pointer (some ⟨w.heap.size, 0, none⟩), .int .u8 35] w1 fun x w' => x = .returned (.bool true) ∧ Mv Ts w.heap.size (.string s) 1 0 w1 w') := Lib.hid (fun w1 h1 => tkb_yes (b := 35) rfl h1 (Nat.zero_le _) HA.out.sz h35')
  have T36 : Hid (∀ w1, Sk Ts w1 w.heap.size (.string s) 1 0 → Calls Tryz.prog 42 #[.pointer (some ⟨w.heap.size, 0, none⟩), .int .u8 36] w1 fun x w' => x = .returned (.bool false) ∧ Mv Ts w.heap.size (.string s) 1 0 w1 w') := Lib.hid (fun w1 h1 => tkb_no (b := 36) rfl h1 (by have := sz0; omega) HA.out.sz h36)
  have T64 : Hid (∀ w1, Sk Ts w1 w.heap.size (.string s) 1 0 → Calls Tryz.prog 42 #[.pointer (some ⟨w.heap.size, 0, none⟩), .int .u8 64] w1 fun x w' => x = .returned (.bool true) ∧ Mv Ts w.heap.size (.string s) 2 0 w1 w') := Lib.hid (fun w1 h1 => tkb_yes (b := 64) rfl h1 (by have := sz0; omega) HA.out.sz h64)
  clear a hk1 hb1 hW1 h35 h35' h36 h64 sz0 sz2 e1 e2 hE hm9
  go_enter Tryz.func25, Tryz.ntmps25
  go_wp2_with (first
    | (go_at_call 41; refine HN.out.mono ?_; rintro x w' ⟨rfl, rfl⟩)
    | (go_at_call 42; (with_reducible refine (T35.out _ K1.out).mono ?_); clear T35; rintro x w35 ⟨rfl, hm⟩; have S35 := Lib.hid hm.1; have M35 := Lib.hid hm.2; clear hm)
    | (go_at_call 42; (with_reducible refine (T36.out _ S35.out).mono ?_); clear T36; rintro x w36 ⟨rfl, hm⟩; have S36 := Lib.hid hm.1; have M36 := Lib.hid (M35.out.trans hm.2); clear hm)
    | (go_at_call 42; (with_reducible refine (T64.out _ S36.out).mono ?_); clear T64; rintro x w64 ⟨rfl, hm⟩; have S64 := Lib.hid hm.1; have M64 := Lib.hid (M36.out.trans hm.2); clear hm)
    | (go_at_call 44; refine (HO.out _ (L1.out.moved K1.out M64.out) (Nat.le_trans LG.out (Nat.le_trans B1.out.size M64.out.size)) S64.out).mono ?_; rintro x w9 ⟨rfl, W, hg, hl, hf⟩; have M9 := Lib.hid (M64.out.trans hg); have L9 := Lib.hid hl; have F9 := Lib.hid hf; clear hg hl hf)
    | fail)
  go_ret
  exact ⟨by rw [HE.out.1]; rfl, fun _ => by rw [HE.out.2]; exact L9.out, ((Fr.below B1.out).trans (fr_moved K1.out M9.out LG.out)).trans F9.out⟩

set_option maxRecDepth 100000 in
set_option maxHeartbeats 4000000 in
theorem add_sum_no (lo q : Nat) (r : Rd11) (s : ByteArray) (w : World) (a : Ad lo q r s w) (h35 : s.data.toList.head? = some 35) (h36 : (s.data.toList.drop 1).head? ≠ some 36) (h64 : (s.data.toList.drop 1).head? ≠ some 64) (h104 : (s.data.toList.drop 1).head? = some 104) (hno : dgE s.data.toList 2 ≠ 0 ∨ r.s ≠ 0) :
    Calls Tryz.prog 25 #[.pointer (some ⟨q, 0, none⟩), .string s] w (AddP lo q r s.data.toList w) := by
  obtain ⟨W1, hW1, hk1, hb1⟩ := new_box s w
  have HN : Hid (Calls Tryz.prog 41 #[.string s] w fun x w' => x = .returned (.pointer (some ⟨w.heap.size, 0, none⟩)) ∧ w' = W1) := Lib.hid (by rw [hW1]; exact new_s s w)
  have K1 := Lib.hid hk1; have B1 := Lib.hid hb1
  have HA := Lib.hid a
  have LG : Hid (lo ≤ w.heap.size) := Lib.hid a.ll
  have L1 := Lib.hid (a.ls.below hb1)
  have h35' : (s.data.toList.drop 0).head? = some 35 := by rw [List.drop_zero]; exact h35
  have sz0 : 1 ≤ s.size := by
    have : 0 < s.data.toList.length := List.length_pos_iff.2 (fun c => by rw [c] at h35; cases h35)
    have e : s.data.toList.length = s.size := by simp
    omega
  have sz2 : 2 ≤ s.size := by
    have : 0 < (s.data.toList.drop 1).length := List.length_pos_iff.2 (fun c => by rw [c] at h104; cases h104)
    rw [List.length_drop] at this
    have e : s.data.toList.length = s.size := by simp
    omega
  have e1 : on11 r s.data.toList = 2 := by
    unfold on11
    rw [if_neg (sharp_wd h35), if_neg (take2_no h36), if_neg (take2_no h64), if_pos (take2_of h35 h104)]
    have hp := a.s0
    by_cases hc : gpL (s.data.toList.drop 2) = false ∨ (wdL (s.data.toList.drop 2)).length ≠ 5 ∨ 0 < r.s
    · rw [if_pos hc]
    · rw [if_neg hc]
      have hr : r.s = 0 := by have : ¬ 0 < r.s := fun c => hc (.inr (.inr c)); omega
      rcases dg_is s.data.toList 2 with h | h
      · exact absurd h.1 (hno.resolve_right (fun c => c hr))
      · rcases h.2 with c | c | c
        · exact absurd (.inl c) hc
        · exact absurd (.inr (.inl c)) hc
        · exact c
  have HE := Lib.hid e1
  have HO : Hid (∀ w1, Ls lo w1 q r → GE w1 → Sk Ts w1 w.heap.size (.string s) 2 0 → Calls Tryz.prog 46 #[.pointer (some ⟨q, 3, none⟩), .pointer (some ⟨w.heap.size, 0, none⟩), .func (.func 47) #[] #[]] w1 fun x w' => x = .returned (ev 2) ∧ w1.grownBy w' (some w.heap.size)) := Lib.hid (fun w1 hl hg1 h1 => by
    obtain ⟨pu, pe, pd, A, c, S, l1, l2, l3, l4, l5, l6⟩ := hl
    exact oncesum_no q 3 _ w.heap.size 2 s w1 hg1 (by have := a.l8; have := a.ll; have : 6 ≤ 7 := (by decide); omega) (by have := a.l8; have := a.ll; omega) h1 sz2 a.sz (bk_cell l1 3) (by have := a.ql; have := a.ll; omega) (hno.imp id (fun c => l5.yes c)))
  have HGE := Lib.hid (a.ge.below hb1)
  have NE : Hid (w.heap.size ≠ 6 ∧ w.heap.size ≠ 7) := Lib.hid ⟨(by have := a.l8; have := a.ll; have : 6 ≤ 7 := (by decide); omega), (by have := a.l8; have := a.ll; omega)⟩
  have T35 : Hid (∀ w1, Sk Ts w1 w.heap.size (.string s) 0 0 → Calls Tryz.prog 42 #[.pointer (some ⟨w.heap.size, 0, none⟩), .int .u8 35] w1 fun x w' => x = .returned (.bool true) ∧ Mv Ts w.heap.size (.string s) 1 0 w1 w') := Lib.hid (fun w1 h1 => tkb_yes (b := 35) rfl h1 (Nat.zero_le _) HA.out.sz h35')
  have T36 : Hid (∀ w1, Sk Ts w1 w.heap.size (.string s) 1 0 → Calls Tryz.prog 42 #[.pointer (some ⟨w.heap.size, 0, none⟩), .int .u8 36] w1 fun x w' => x = .returned (.bool false) ∧ Mv Ts w.heap.size (.string s) 1 0 w1 w') := Lib.hid (fun w1 h1 => tkb_no (b := 36) rfl h1 (by have := sz0; omega) HA.out.sz h36)
  have T64 : Hid (∀ w1, Sk Ts w1 w.heap.size (.string s) 1 0 → Calls Tryz.prog 42 #[.pointer (some ⟨w.heap.size, 0, none⟩), .int .u8 64] w1 fun x w' => x = .returned (.bool false) ∧ Mv Ts w.heap.size (.string s) 1 0 w1 w') := Lib.hid (fun w1 h1 => tkb_no (b := 64) rfl h1 (by have := sz0; omega) HA.out.sz h64)
  have T104 : Hid (∀ w1, Sk Ts w1 w.heap.size (.string s) 1 0 → Calls Tryz.prog 42 #[.pointer (some ⟨w.heap.size, 0, none⟩), .int .u8 104] w1 fun x w' => x = .returned (.bool true) ∧ Mv Ts w.heap.size (.string s) 2 0 w1 w') := Lib.hid (fun w1 h1 => tkb_yes (b := 104) rfl h1 (by have := sz0; omega) HA.out.sz h104)
  clear a hk1 hb1 hW1 h35 h35' h36 h64 h104 sz0 sz2 e1 hno
  go_enter Tryz.func25, Tryz.ntmps25
  go_wp2_with (first
    | (go_at_call 41; refine HN.out.mono ?_; rintro x w' ⟨rfl, rfl⟩)
    | (go_at_call 42; (with_reducible refine (T35.out _ K1.out).mono ?_); clear T35; rintro x w35 ⟨rfl, hm⟩; have S35 := Lib.hid hm.1; have M35 := Lib.hid hm.2; clear hm)
    | (go_at_call 42; (with_reducible refine (T36.out _ S35.out).mono ?_); clear T36; rintro x w36 ⟨rfl, hm⟩; have S36 := Lib.hid hm.1; have M36 := Lib.hid (M35.out.trans hm.2); clear hm)
    | (go_at_call 42; (with_reducible refine (T64.out _ S36.out).mono ?_); clear T64; rintro x w64 ⟨rfl, hm⟩; have S64 := Lib.hid hm.1; have M64 := Lib.hid (M36.out.trans hm.2); clear hm)
    | (go_at_call 42; (with_reducible refine (T104.out _ S64.out).mono ?_); clear T104; rintro x w104 ⟨rfl, hm⟩; have S104 := Lib.hid hm.1; have M104 := Lib.hid (M64.out.trans hm.2); clear hm)
    | (go_at_call 46; refine (HO.out _ (L1.out.moved K1.out M104.out) (HGE.out.kept M104.out NE.out.1 NE.out.2) S104.out).mono ?_; rintro x w9 ⟨rfl, hm⟩; have M9 := Lib.hid (M104.out.trans hm); clear hm)
    | fail)
  go_ret
  exact ⟨by rw [HE.out]; rfl, fun c => absurd (HE.out.symm.trans c) (by decide), (Fr.below B1.out).trans (fr_moved K1.out M9.out LG.out)⟩

set_option maxRecDepth 100000 in
set_option maxHeartbeats 4000000 in
theorem add_sum_yes (lo q : Nat) (r : Rd11) (s : ByteArray) (w : World) (a : Ad lo q r s w) (h35 : s.data.toList.head? = some 35) (h36 : (s.data.toList.drop 1).head? ≠ some 36) (h64 : (s.data.toList.drop 1).head? ≠ some 64) (h104 : (s.data.toList.drop 1).head? = some 104) (hE : dgE s.data.toList 2 = 0) (hm9 : r.s = 0) :
    Calls Tryz.prog 25 #[.pointer (some ⟨q, 0, none⟩), .string s] w (AddP lo q r s.data.toList w) := by
  obtain ⟨W1, hW1, hk1, hb1⟩ := new_box s w
  have HN : Hid (Calls Tryz.prog 41 #[.string s] w fun x w' => x = .returned (.pointer (some ⟨w.heap.size, 0, none⟩)) ∧ w' = W1) := Lib.hid (by rw [hW1]; exact new_s s w)
  have K1 := Lib.hid hk1; have B1 := Lib.hid hb1
  have HA := Lib.hid a
  have LG : Hid (lo ≤ w.heap.size) := Lib.hid a.ll
  have L1 := Lib.hid (a.ls.below hb1)
  have h35' : (s.data.toList.drop 0).head? = some 35 := by rw [List.drop_zero]; exact h35
  have sz0 : 1 ≤ s.size := by
    have : 0 < s.data.toList.length := List.length_pos_iff.2 (fun c => by rw [c] at h35; cases h35)
    have e : s.data.toList.length = s.size := by simp
    omega
  have sz2 : 2 ≤ s.size := by
    have : 0 < (s.data.toList.drop 1).length := List.length_pos_iff.2 (fun c => by rw [c] at h104; cases h104)
    rw [List.length_drop] at this
    have e : s.data.toList.length = s.size := by simp
    omega
  rcases dg_is s.data.toList 2 with hd | hd
  case inr => rw [hd.1] at hE; cases hE
  obtain ⟨-, d1, d2, d3, d4⟩ := hd
  have hn : ¬ (gpL (s.data.toList.drop 2) = false ∨ (wdL (s.data.toList.drop 2)).length ≠ 5 ∨ 0 < r.s) := by
    rintro (c | c | c)
    · rw [d1] at c; cases c
    · exact c d2
    · omega
  have e1 : on11 r s.data.toList = 0 := by
    unfold on11
    rw [if_neg (sharp_wd h35), if_neg (take2_no h36), if_neg (take2_no h64), if_pos (take2_of h35 h104)]
    rw [if_neg hn]
    exact d3
  have e2 : nx11 r s.data.toList = { r with s := 1, x0 := (suN (wdL (s.data.toList.drop 2)) 0 : Nat), x1 := (suN (wdL (s.data.toList.drop 2)) 1 : Nat), x2 := (suN (wdL (s.data.toList.drop 2)) 2 : Nat), x3 := (suN (wdL (s.data.toList.drop 2)) 3 : Nat), x4 := (suN (wdL (s.data.toList.drop 2)) 4 : Nat) } := by
    unfold nx11
    rw [if_neg (sharp_wd h35), if_neg (take2_no h36), if_neg (take2_no h64), if_pos (take2_of h35 h104)]
  have HE := Lib.hid (And.intro e1 e2)
  have HO : Hid (∀ w1, Ls lo w1 q r → lo ≤ w1.heap.size → GE w1 → Sk Ts w1 w.heap.size (.string s) 2 0 → Calls Tryz.prog 46 #[.pointer (some ⟨q, 3, none⟩), .pointer (some ⟨w.heap.size, 0, none⟩), .func (.func 47) #[] #[]] w1 fun x w' => x = .returned (ev 0) ∧ ∃ W, w1.grownBy W (some w.heap.size) ∧ Ls lo w' q { r with s := 1, x0 := (suN (wdL (s.data.toList.drop 2)) 0 : Nat), x1 := (suN (wdL (s.data.toList.drop 2)) 1 : Nat), x2 := (suN (wdL (s.data.toList.drop 2)) 2 : Nat), x3 := (suN (wdL (s.data.toList.drop 2)) 3 : Nat), x4 := (suN (wdL (s.data.toList.drop 2)) 4 : Nat) } ∧ Fr lo q W w') := Lib.hid (fun w1 hl hlw hg1 h1 => by
    have hl' := hl
    obtain ⟨pu, pe, pd, A, c, S, l1, l2, l3, l4, l5, l6⟩ := hl
    obtain rfl := l5.no hm9
    refine (oncesum_yes q 3 w.heap.size 2 s w1 hg1 (by have := a.l8; have := a.ll; have : 6 ≤ 7 := (by decide); omega) (by have := a.l8; have := a.ll; omega) h1 sz2 a.sz (bk_cell l1 3) (bk_free l1 3) (by have := a.ql; have := a.ll; omega) hE).mono ?_
    rintro x w' ⟨hx, W, b, S', g1, hb, hi, hS, rfl⟩
    have k := (hl'.moved h1 g1).setD hi (Nat.le_trans hlw hb)
    have s0 : S'.a.toNat = _ := (hS 0 (by decide)).trans (d4 0 (by decide))
    have s1 : S'.b.toNat = _ := (hS 1 (by decide)).trans (d4 1 (by decide))
    have s2 : S'.c.toNat = _ := (hS 2 (by decide)).trans (d4 2 (by decide))
    have s3 : S'.d.toNat = _ := (hS 3 (by decide)).trans (d4 3 (by decide))
    have s4 : S'.e.toNat = _ := (hS 4 (by decide)).trans (d4 4 (by decide))
    rw [s0, s1, s2, s3, s4] at k
    exact ⟨hx, W, g1, k, Fr.set W 3 _⟩)
  have HGE := Lib.hid (a.ge.below hb1)
  have NE : Hid (w.heap.size ≠ 6 ∧ w.heap.size ≠ 7) := Lib.hid ⟨(by have := a.l8; have := a.ll; have : 6 ≤ 7 := (by decide); omega), (by have := a.l8; have := a.ll; omega)⟩
  have T35 : Hid (∀ w1, Sk Ts w1 w.heap.size (.string s) 0 0 → Calls Tryz.prog 42 #[.pointer (some ⟨w.heap.size, 0, none⟩), .int .u8 35] w1 fun x w' => x = .returned (.bool true) ∧ Mv Ts w.heap.size (.string s) 1 0 w1 w') := Lib.hid (fun w1 h1 => tkb_yes (b := 35) rfl h1 (Nat.zero_le _) HA.out.sz h35')
  have T36 : Hid (∀ w1, Sk Ts w1 w.heap.size (.string s) 1 0 → Calls Tryz.prog 42 #[.pointer (some ⟨w.heap.size, 0, none⟩), .int .u8 36] w1 fun x w' => x = .returned (.bool false) ∧ Mv Ts w.heap.size (.string s) 1 0 w1 w') := Lib.hid (fun w1 h1 => tkb_no (b := 36) rfl h1 (by have := sz0; omega) HA.out.sz h36)
  have T64 : Hid (∀ w1, Sk Ts w1 w.heap.size (.string s) 1 0 → Calls Tryz.prog 42 #[.pointer (some ⟨w.heap.size, 0, none⟩), .int .u8 64] w1 fun x w' => x = .returned (.bool false) ∧ Mv Ts w.heap.size (.string s) 1 0 w1 w') := Lib.hid (fun w1 h1 => tkb_no (b := 64) rfl h1 (by have := sz0; omega) HA.out.sz h64)
  have T104 : Hid (∀ w1, Sk Ts w1 w.heap.size (.string s) 1 0 → Calls Tryz.prog 42 #[.pointer (some ⟨w.heap.size, 0, none⟩), .int .u8 104] w1 fun x w' => x = .returned (.bool true) ∧ Mv Ts w.heap.size (.string s) 2 0 w1 w') := Lib.hid (fun w1 h1 => tkb_yes (b := 104) rfl h1 (by have := sz0; omega) HA.out.sz h104)
  clear a hk1 hb1 hW1 h35 h35' h36 h64 h104 sz0 sz2 e1 e2 hE hm9 d1 d2 d3 d4 hn
  go_enter Tryz.func25, Tryz.ntmps25
  go_wp2_with (first
    | (go_at_call 41; refine HN.out.mono ?_; rintro x w' ⟨rfl, rfl⟩)
    | (go_at_call 42; (with_reducible refine (T35.out _ K1.out).mono ?_); clear T35; rintro x w35 ⟨rfl, hm⟩; have S35 := Lib.hid hm.1; have M35 := Lib.hid hm.2; clear hm)
    | (go_at_call 42; (with_reducible refine (T36.out _ S35.out).mono ?_); clear T36; rintro x w36 ⟨rfl, hm⟩; have S36 := Lib.hid hm.1; have M36 := Lib.hid (M35.out.trans hm.2); clear hm)
    | (go_at_call 42; (with_reducible refine (T64.out _ S36.out).mono ?_); clear T64; rintro x w64 ⟨rfl, hm⟩; have S64 := Lib.hid hm.1; have M64 := Lib.hid (M36.out.trans hm.2); clear hm)
    | (go_at_call 42; (with_reducible refine (T104.out _ S64.out).mono ?_); clear T104; rintro x w104 ⟨rfl, hm⟩; have S104 := Lib.hid hm.1; have M104 := Lib.hid (M64.out.trans hm.2); clear hm)
    | (go_at_call 46; refine (HO.out _ (L1.out.moved K1.out M104.out) (Nat.le_trans LG.out (Nat.le_trans B1.out.size M104.out.size)) (HGE.out.kept M104.out NE.out.1 NE.out.2) S104.out).mono ?_; rintro x w9 ⟨rfl, W, hg, hl, hf⟩; have M9 := Lib.hid (M104.out.trans hg); have L9 := Lib.hid hl; have F9 := Lib.hid hf; clear hg hl hf)
    | fail)
  go_ret
  exact ⟨by rw [HE.out.1]; rfl, fun _ => by rw [HE.out.2]; exact L9.out, ((Fr.below B1.out).trans (fr_moved K1.out M9.out LG.out)).trans F9.out⟩

set_option maxRecDepth 100000 in
set_option maxHeartbeats 4000000 in
theorem add_mark (lo q : Nat) (r : Rd11) (s : ByteArray) (w : World) (a : Ad lo q r s w) (h35 : s.data.toList.head? = some 35) (h36 : (s.data.toList.drop 1).head? ≠ some 36) (h64 : (s.data.toList.drop 1).head? ≠ some 64) (h104 : (s.data.toList.drop 1).head? ≠ some 104) :
    Calls Tryz.prog 25 #[.pointer (some ⟨q, 0, none⟩), .string s] w (AddP lo q r s.data.toList w) := by
  obtain ⟨W1, hW1, hk1, hb1⟩ := new_box s w
  have HN : Hid (Calls Tryz.prog 41 #[.string s] w fun x w' => x = .returned (.pointer (some ⟨w.heap.size, 0, none⟩)) ∧ w' = W1) := Lib.hid (by rw [hW1]; exact new_s s w)
  have K1 := Lib.hid hk1; have B1 := Lib.hid hb1
  have HA := Lib.hid a
  have LG : Hid (lo ≤ w.heap.size) := Lib.hid a.ll
  have L1 := Lib.hid (a.ls.below hb1)
  have h35' : (s.data.toList.drop 0).head? = some 35 := by rw [List.drop_zero]; exact h35
  have sz0 : 1 ≤ s.size := by
    have : 0 < s.data.toList.length := List.length_pos_iff.2 (fun c => by rw [c] at h35; cases h35)
    have e : s.data.toList.length = s.size := by simp
    omega
  have e1 : on11 r s.data.toList = 0 := by
    unfold on11
    rw [if_neg (sharp_wd h35), if_neg (take2_no h36), if_neg (take2_no h64), if_neg (take2_no h104), if_pos (by rw [← List.head?_eq_getElem?]; exact h35)]
  have e2 : nx11 r s.data.toList = r := by
    unfold nx11
    rw [if_neg (sharp_wd h35), if_neg (take2_no h36), if_neg (take2_no h64), if_neg (take2_no h104), if_pos (by rw [← List.head?_eq_getElem?]; exact h35)]
  have HE := Lib.hid (And.intro e1 e2)
  have T35 : Hid (∀ w1, Sk Ts w1 w.heap.size (.string s) 0 0 → Calls Tryz.prog 42 #[.pointer (some ⟨w.heap.size, 0, none⟩), .int .u8 35] w1 fun x w' => x = .returned (.bool true) ∧ Mv Ts w.heap.size (.string s) 1 0 w1 w') := Lib.hid (fun w1 h1 => tkb_yes (b := 35) rfl h1 (Nat.zero_le _) HA.out.sz h35')
  have T36 : Hid (∀ w1, Sk Ts w1 w.heap.size (.string s) 1 0 → Calls Tryz.prog 42 #[.pointer (some ⟨w.heap.size, 0, none⟩), .int .u8 36] w1 fun x w' => x = .returned (.bool false) ∧ Mv Ts w.heap.size (.string s) 1 0 w1 w') := Lib.hid (fun w1 h1 => tkb_no (b := 36) rfl h1 (by have := sz0; omega) HA.out.sz h36)
  have T64 : Hid (∀ w1, Sk Ts w1 w.heap.size (.string s) 1 0 → Calls Tryz.prog 42 #[.pointer (some ⟨w.heap.size, 0, none⟩), .int .u8 64] w1 fun x w' => x = .returned (.bool false) ∧ Mv Ts w.heap.size (.string s) 1 0 w1 w') := Lib.hid (fun w1 h1 => tkb_no (b := 64) rfl h1 (by have := sz0; omega) HA.out.sz h64)
  have T104 : Hid (∀ w1, Sk Ts w1 w.heap.size (.string s) 1 0 → Calls Tryz.prog 42 #[.pointer (some ⟨w.heap.size, 0, none⟩), .int .u8 104] w1 fun x w' => x = .returned (.bool false) ∧ Mv Ts w.heap.size (.string s) 1 0 w1 w') := Lib.hid (fun w1 h1 => tkb_no (b := 104) rfl h1 (by have := sz0; omega) HA.out.sz h104)
  clear a hk1 hb1 hW1 h35 h35' h36 h64 h104 sz0 e1 e2
  go_enter Tryz.func25, Tryz.ntmps25
  go_wp2_with (first
    | (go_at_call 41; refine HN.out.mono ?_; rintro x w' ⟨rfl, rfl⟩)
    | (go_at_call 42; (with_reducible refine (T35.out _ K1.out).mono ?_); clear T35; rintro x w35 ⟨rfl, hm⟩; have S35 := Lib.hid hm.1; have M35 := Lib.hid hm.2; clear hm)
    | (go_at_call 42; (with_reducible refine (T36.out _ S35.out).mono ?_); clear T36; rintro x w36 ⟨rfl, hm⟩; have S36 := Lib.hid hm.1; have M36 := Lib.hid (M35.out.trans hm.2); clear hm)
    | (go_at_call 42; (with_reducible refine (T64.out _ S36.out).mono ?_); clear T64; rintro x w64 ⟨rfl, hm⟩; have S64 := Lib.hid hm.1; have M64 := Lib.hid (M36.out.trans hm.2); clear hm)
    | (go_at_call 42; (with_reducible refine (T104.out _ S64.out).mono ?_); clear T104; rintro x w104 ⟨rfl, hm⟩; have S104 := Lib.hid hm.1; have M104 := Lib.hid (M64.out.trans hm.2); clear hm)
    | fail)
  go_ret
  exact ⟨by rw [HE.out.1]; rfl, fun _ => by rw [HE.out.2]; exact L1.out.moved K1.out M104.out, (Fr.below B1.out).trans (fr_moved K1.out M104.out LG.out)⟩

/-- A line, of whatever kind. -/
theorem ladd_any (lo q : Nat) (r : Rd11) (s : ByteArray) (w : World) (a : Ad lo q r s w) : Calls Tryz.prog 25 #[.pointer (some ⟨q, 0, none⟩), .string s] w (AddP lo q r s.data.toList w) := by
  by_cases h35 : s.data.toList.head? = some 35
  · by_cases h36 : (s.data.toList.drop 1).head? = some 36
    · by_cases hE : tiE (s.data.toList.drop 2) = 0
      · by_cases hm : r.m = 0
        · exact add_made_yes lo q r s w a h35 h36 hE hm
        · exact add_made_no lo q r s w a h35 h36 (.inr hm)
      · exact add_made_no lo q r s w a h35 h36 (.inl hE)
    by_cases h64 : (s.data.toList.drop 1).head? = some 64
    · by_cases hE : tiE (s.data.toList.drop 2) = 0
      · by_cases hm : r.h = 0
        · exact add_hold_yes lo q r s w a h35 h36 h64 hE hm
        · exact add_hold_no lo q r s w a h35 h36 h64 (.inr hm)
      · exact add_hold_no lo q r s w a h35 h36 h64 (.inl hE)
    by_cases h104 : (s.data.toList.drop 1).head? = some 104
    · by_cases hE : dgE s.data.toList 2 = 0
      · by_cases hm : r.s = 0
        · exact add_sum_yes lo q r s w a h35 h36 h64 h104 hE hm
        · exact add_sum_no lo q r s w a h35 h36 h64 h104 (.inr hm)
      · exact add_sum_no lo q r s w a h35 h36 h64 h104 (.inl hE)
    exact add_mark lo q r s w a h35 h36 h64 h104
  · by_cases hw : wdL s.data.toList = []
    · exact add_gaps lo q r s w a h35 hw
    by_cases hE : rwE s.data.toList = 0
    · exact add_rowgood lo q r s w a h35 hw hE
    · exact add_rowbad lo q r s w a h35 hw hE

end Go.Proofs.YtdonicaiimeleaaGreatDoor
