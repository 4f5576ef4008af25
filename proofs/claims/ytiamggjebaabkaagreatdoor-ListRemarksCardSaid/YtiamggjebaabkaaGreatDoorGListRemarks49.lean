/- Merged: ListAU. -/
import Derived.Test.YtiamggjebaabkaaGreatDoorGListRemarks48
import Derived.Test.YtiamggjebaabkaaGreatDoorGListRemarks13
import Derived.Test.YtiamggjebaabkaaGreatDoorGListRemarks14
namespace Go.Proofs.YtiamggjebaabkaaGreatDoor
open Go.RowKit
set_option linter.unusedVariables false
set_option linter.unusedSimpArgs false

theorem add_lists11 (x y : List UInt8) (hx : x.length ≤ 1000000) (hy : y.length ≤ 1000000) (W : World) : (Op.stringOp .add ⟨x.toArray⟩ ⟨y.toArray⟩).run Tryz.prog W = .ok (.string ⟨(x ++ y).toArray⟩) W := run_string_add_lists (P := Tryz.prog) (w := W) x y (by omega) (by omega)
/-- The sums of a round. -/
theorem sums11a (M m : List UInt8) (hM : M.length ≤ 100000) (hm : m.length ≤ 100000) : ∃ X1 X2 X3 : ByteArray,
    (∀ W, (Op.stringOp .add ⟨#[35, 32]⟩ ⟨m.toArray⟩).run Tryz.prog W = .ok (.string X1) W) ∧ (∀ W, (Op.stringOp .add X1 ⟨#[10, 32, 9, 10]⟩).run Tryz.prog W = .ok (.string X2) W) ∧
    (∀ W, (Op.stringOp .add ⟨M.toArray⟩ X2).run Tryz.prog W = .ok (.string X3) W) ∧ X3 = ⟨(M ++ 35 :: 32 :: (m ++ [10, 32, 9, 10])).toArray⟩ := by
  refine ⟨⟨(([35, 32] : List UInt8) ++ m).toArray⟩, ⟨((([35, 32] : List UInt8) ++ m) ++ [10, 32, 9, 10]).toArray⟩, ⟨(M ++ ((([35, 32] : List UInt8) ++ m) ++ [10, 32, 9, 10])).toArray⟩, fun W => add_lists11 [35, 32] m ?_ ?_ W, fun W => add_lists11 _ [10, 32, 9, 10] ?_ ?_ W, fun W => add_lists11 M _ ?_ ?_ W, by simp⟩
  all_goals ((try simp only [List.length_append, List.length_cons, List.length_nil]); omega)
theorem sums11b (M l : List UInt8) (hM : M.length ≤ 200000) (hl : l.length ≤ 100000) : ∃ X1 X2 : ByteArray,
    (∀ W, (Op.stringOp .add ⟨l.toArray⟩ ⟨#[10]⟩).run Tryz.prog W = .ok (.string X1) W) ∧ (∀ W, (Op.stringOp .add ⟨M.toArray⟩ X1).run Tryz.prog W = .ok (.string X2) W) ∧ X2 = ⟨(M ++ (l ++ [10])).toArray⟩ := by
  refine ⟨⟨(l ++ [10]).toArray⟩, ⟨(M ++ (l ++ [10])).toArray⟩, fun W => add_lists11 l [10] ?_ ?_ W, fun W => add_lists11 M _ ?_ ?_ W, rfl⟩
  all_goals ((try simp only [List.length_append, List.length_cons, List.length_nil]); omega)
theorem mr_len (ls : List (List UInt8)) (m : List UInt8) (a : Int) (i : Nat) (hi : i ≤ ls.length) : (mrL ls m a i).length ≤ ls.flatten.length + ls.length + m.length + 6 := by
  have h := mrL_len ls m a i hi
  have h2 : (ls.take i).flatten.length ≤ ls.flatten.length := by
    conv => rhs; rw [← List.take_append_drop i ls]
    rw [List.flatten_append, List.length_append]; omega
  split at h <;> omega
theorem mr_next (ls : List (List UInt8)) (m : List UInt8) (a : Int) (i : Nat) (l : List UInt8) (hl : ls.getD i [] = l) (h : (i : Int) = a) : mrL ls m a i ++ 35 :: 32 :: (m ++ [10, 32, 9, 10]) ++ (l ++ [10]) = mrL ls m a (i + 1) := by rw [mrL, if_pos h, hl]
theorem mr_plain (ls : List (List UInt8)) (m : List UInt8) (a : Int) (i : Nat) (l : List UInt8) (hl : ls.getD i [] = l) (h : ¬ (i : Int) = a) : mrL ls m a i ++ (l ++ [10]) = mrL ls m a (i + 1) := by rw [mrL, if_neg h, hl, List.append_nil]
/-- The same reading gives the same answer. -/
theorem same_read {l l' : List UInt8} (h : go11 (lnL l) zr11 = go11 (lnL l') zr11) (h1 : l.length ≤ 65535) (h2 : l'.length ≤ 65535) : pZ11 l = pZ11 l' ∧ rg11 l = rg11 l' := by
  have e : rg11 l = rg11 l' := by unfold rg11; rw [h]
  refine ⟨?_, e⟩
  unfold pZ11 pE11
  rw [if_pos h1, if_pos h2, h, e]

theorem wh_lo11 (l : List UInt8) (a b : Int) (lim : Nat) : 0 ≤ whE l a b lim ∧ whE l a b lim < 100 := by
  have h := tkE_cases l a b lim
  unfold whE
  repeat' split
  all_goals omega
theorem on_lo (r : Rd11) (l : List UInt8) : 0 ≤ on11 r l ∧ on11 r l < 100 := by
  have h1 : ∀ x, 0 ≤ tiE x ∧ tiE x < 100 := fun x => by
    unfold tiE
    split
    · exact wh_lo11 _ _ _ _
    · decide
  have h2 : ∀ x m, 0 ≤ twE (tiE x) m ∧ twE (tiE x) m < 100 := fun x m => by
    have := h1 x
    unfold twE
    repeat' split
    all_goals omega
  have h3 : ∀ x, 0 ≤ suE x ∧ suE x < 100 := fun x => by unfold suE; split <;> decide
  have h4 : 0 ≤ rwE l ∧ rwE l < 100 := by unfold rwE; repeat' split <;> try decide
  unfold on11
  repeat' split
  all_goals first | exact h2 _ _ | exact h3 _ | exact h4 | decide
theorem go_lo : ∀ (ls : List (List UInt8)) (r : Rd11), 0 ≤ (go11 ls r).1 ∧ (go11 ls r).1 < 100
  | [], r => ⟨Int.le_refl _, by show (0 : Int) < 100; decide⟩
  | x :: xs, r => by
    rw [go11]
    split
    · exact go_lo xs _
    · exact on_lo r x

set_option maxRecDepth 100000 in
set_option maxHeartbeats 4000000 in
theorem remarks11_big (t r : ByteArray) (a : Int) (w : World) (hs : S11 w) (ht : 3000 < t.size) :
    Calls Tryz.prog 6 #[.string t, .string r, .int .i64 a] w fun x w' => x = .returned (.bool true) ∧ Below w.heap.size w w' := by
  have B : Hid (Below w.heap.size w w) := Lib.hid (Below.refl _ _)
  have S := Lib.hid hs
  have HAl := Lib.hid (fun W hs => alive11_any W hs)
  have q0 := fun op t W x k => guard_ev op t W x k
  have q1 := fun W k => eql_ev W k
  have q2 := fun W k => neq_ev W k
  have hz : (3000 : Int) < (t.size : Int) := by omega
  clear ht
  clear hs
  go_enter Tryz.func6, Tryz.ntmps6
  go_wp2_with fail
  refine (HAl.out _ S.out).mono ?_
  rintro e1 w1 ⟨rfl, hb⟩
  have B := Lib.hid (B.out.trans (hb.mono B.out.size))
  have S := Lib.hid (S.out.below hb)
  clear hb
  go_wp2_with fail
  go_ret
  exact ⟨rfl, B.out⟩

set_option maxRecDepth 100000 in
set_option maxHeartbeats 4000000 in
theorem remarks11_wide (t r : ByteArray) (a : Int) (w : World) (hs : S11 w) (ht : ¬ 3000 < t.size) (hr : 100 < r.size) :
    Calls Tryz.prog 6 #[.string t, .string r, .int .i64 a] w fun x w' => x = .returned (.bool true) ∧ Below w.heap.size w w' := by
  have B : Hid (Below w.heap.size w w) := Lib.hid (Below.refl _ _)
  have S := Lib.hid hs
  have HAl := Lib.hid (fun W hs => alive11_any W hs)
  have q0 := fun op t W x k => guard_ev op t W x k
  have q1 := fun W k => eql_ev W k
  have q2 := fun W k => neq_ev W k
  have hz : ¬ (3000 : Int) < (t.size : Int) := by omega
  have hz2 : (100 : Int) < (r.size : Int) := by omega
  clear ht hr
  clear hs
  go_enter Tryz.func6, Tryz.ntmps6
  go_wp2_with fail
  refine (HAl.out _ S.out).mono ?_
  rintro e1 w1 ⟨rfl, hb⟩
  have B := Lib.hid (B.out.trans (hb.mono B.out.size))
  have S := Lib.hid (S.out.below hb)
  clear hb
  go_wp2_with fail
  go_ret
  exact ⟨rfl, B.out⟩

set_option maxRecDepth 100000 in
set_option maxHeartbeats 8000000 in
theorem remarks11_yes (t r : ByteArray) (a : Int) (w : World) (hs : S11 w) (ht : t.size ≤ 3000) (hr : r.size ≤ 100) (hp : pZ11 t.data.toList = 0) :
    Calls Tryz.prog 6 #[.string t, .string r, .int .i64 a] w fun x w' => x = .returned (.bool true) ∧ Below w.heap.size w w' := by
  have B : Hid (Below w.heap.size w w) := Lib.hid (Below.refl _ _)
  have S := Lib.hid hs
  have HAl := Lib.hid (fun W hs => alive11_any W hs)
  have HLn := Lib.hid (fun W => lines_any t W (by omega))
  have hz1 : ¬ (3000 : Int) < (t.size : Int) := by omega
  have hz2 : ¬ (100 : Int) < (r.size : Int) := by omega
  have hts : t.data.toList.length = t.size := by rw [Array.length_toList]; rfl
  have hrs : r.data.toList.length = r.size := by rw [Array.length_toList]; rfl
  have hall := lnL_all t.data.toList
  have hsum := lnL_sum t.data.toList
  obtain ⟨M, hM⟩ : ∃ M, M = r.data.toList := ⟨_, rfl⟩
  have hMr : (⟨M.toArray⟩ : ByteArray) = r := by rw [hM]
  have HMR := Lib.hid hMr
  have hrd := fun (X : List UInt8) (hx : go11 (lnL t.data.toList) zr11 = go11 (lnL X) zr11) (hl : X.length ≤ 65535) => same_read hx (by omega) hl
  have q0 := fun op t W x k => guard_ev op t W x k
  have q1 := fun W k => eql_ev W k
  have q2 := fun W k => neq_ev W k
  have HP1 := Lib.hid (fun W (h : S11 W) => parse11_yes t W h hp)
  have HP2 := Lib.hid (fun (X : List UInt8) (hx : go11 (lnL t.data.toList) zr11 = go11 (lnL X) zr11) (hl : X.length ≤ 65535) (W : World) (h : S11 W) => parse11_yes ⟨X.toArray⟩ W h (by have := (hrd X hx hl).1; rw [hp] at this; simpa using this.symm))
  have few := (lkE_zero (paE11_zero (pE11_zero hp).2.2).2.2.1).1.few
  have HSa := Lib.hid (fun (lo lo' g g' : Nat) (W : World) (h1 : Tb lo W g (rg11 t.data.toList).L (rg11 t.data.toList).u (rg11 t.data.toList).e) (h2 : Tb lo' W g' (rg11 t.data.toList).L (rg11 t.data.toList).u (rg11 t.data.toList).e) => same_any h1 h2 few few)
  rw [show smB (rg11 t.data.toList).L (rg11 t.data.toList).u (rg11 t.data.toList).e (rg11 t.data.toList).L (rg11 t.data.toList).u (rg11 t.data.toList).e = true from smB_self _ _ _] at HSa
  have EB : Hid ((0 : Int) ≤ 0 ∧ (0 : Int) < 100) := Lib.hid ⟨by decide, by decide⟩
  have HRD := Lib.hid hrd
  obtain ⟨ls, hls⟩ : ∃ ls, ls = lnL t.data.toList := ⟨_, rfl⟩
  have HLS := Lib.hid hls
  rw [← hls] at hall hsum HLn HP2 HRD
  have HALL := Lib.hid hall; have HSUM : Hid (ls.flatten.length + ls.length ≤ 3001) := Lib.hid (by omega)
  have HML : Hid (M.length ≤ 100) := Lib.hid (by rw [hM]; omega)
  have HMd := Lib.hid hM
  obtain ⟨N2, hN2⟩ : ∃ N2, ls.length = N2 := ⟨_, rfl⟩
  have HN2 := Lib.hid hN2
  obtain ⟨N, hN⟩ : ∃ N, N = r.size := ⟨_, rfl⟩
  have HN := Lib.hid hN
  have HTS := Lib.hid hts
  clear hs hp hall hsum hrd hls hM hMr hN2 hN hr hrs ht hts few
  go_enter Tryz.func6, Tryz.ntmps6
  go_wp2_with fail
  refine (HAl.out _ S.out).mono ?_
  rintro e1 w1 ⟨rfl, hb⟩
  have B := Lib.hid (B.out.trans (hb.mono B.out.size)); have S := Lib.hid (S.out.below hb)
  clear hb
  go_wp2
  go_loopg [7] N (fun gg s7 wr => ∃ k : Nat, k ≤ N ∧ N - k ≤ gg ∧ s7 = .int .i64 k ∧ wr = w1 ∧ Hid (∀ j : Nat, j < k → M[j]? ≠ some 10))
  case atStart => exact ⟨0, Nat.zero_le _, by omega, rfl, rfl, Lib.hid (fun j hj => absurd hj (Nat.not_lt_zero _))⟩
  case round =>
    obtain ⟨k, hk, hgg, rfl, rfl, F⟩ := hrel
    by_cases hlt : k < N
    · have hks : k < r.size := by have := HN.out; omega
      have hltz : (k : Int) < (r.size : Int) := by omega
      have hb := byte_at hks
      rw [← HMd.out] at hb
      by_cases h10 : r[k] = 10
      · have t1 : ((r[k].toNat : Int) == 10) = true := by rw [h10]; rfl
        clear hb h10
        go_wp2
        go_ret
        exact ⟨rfl, B.out⟩
      · have t1 : ((r[k].toNat : Int) == 10) = false := by
          have : r[k].toNat ≠ 10 := fun e => h10 (UInt8.toNat_inj.1 (by rw [e]; rfl))
          simp; omega
        have F2 : Hid (∀ j : Nat, j < k + 1 → M[j]? ≠ some 10) := Lib.hid (fun j hj => if c : j = k then (by subst c; rw [hb]; intro q; exact h10 (Option.some.inj q)) else F.out j (by omega))
        clear hb h10
        go_wp2
        go_roundg (N - (k + 1))
        case measure => omega
        case rel => exact ⟨k + 1, by omega, by omega, by go_num, rfl, F2⟩
    · have hltz : ¬ (k : Int) < (r.size : Int) := by have := HN.out; omega
      have hkl : k = M.length := by
        have h1 := HN.out
        have h2 : M.length = r.size := by rw [HMd.out, Array.length_toList]; rfl
        omega
      have NF : Hid (noF M) := Lib.hid (fun b hb => no_byte (fun j hj => by
        have hj2 := (List.getElem?_eq_some_iff.1 hj).1
        exact F.out j (by omega) hj) b hb)
      clear F hkl
      go_wp2_with fail
      refine (HLn.out _).mono ?_
      rintro e2 w2 ⟨v2, rfl, hv2, hb⟩
      obtain ⟨A8, cq, rfl, -, -⟩ := hv2.reads
      rw [HN2.out] at hv2 ⊢
      have O3 := Lib.hid hv2
      have B := Lib.hid (B.out.trans (hb.mono B.out.size)); have S := Lib.hid (S.out.below hb)
      clear hb hv2
      go_wp2
      go_loopg [40, 9] N2 (fun gg s40 s9 wr => ∃ K : Nat, K ≤ N2 ∧ N2 - K ≤ gg ∧ s40 = .int .i64 K ∧ s9 = .string ⟨(mrL ls M a K).toArray⟩ ∧ wr = w2)
      case atStart => exact ⟨0, Nat.zero_le _, by omega, rfl, rfl, rfl⟩
      case round =>
        obtain ⟨K, hK, hg2, rfl, rfl, rfl⟩ := hrel
        by_cases hlt2 : K < N2
        · have hltz2 : (K : Int) < (N2 : Int) := by omega
          have hn2 : N2 ≤ 3001 := by have := HSUM.out; have := HN2.out; omega
          have hK2 : K < ls.length := by have := HN2.out; omega
          obtain ⟨l, hl⟩ : ∃ l, ls[K]? = some l := ⟨_, List.getElem?_eq_getElem hK2⟩
          have hlg : ls.getD K [] = l := by rw [List.getD, hl]; rfl
          have Q8 : ∃ g8, A8 = some ⟨g8, 0, none⟩ := by
            rcases O3.out.2 with ⟨hv, hn⟩ | ⟨g8, cap, cur, hv, -⟩
            · have := HN2.out; omega
            · injection hv with hv; exact ⟨g8, hv⟩
          obtain ⟨g8, rfl⟩ := Q8
          have C5 : wr.cell? ⟨g8, K, none⟩ = some (.string ⟨l.toArray⟩) := O3.out.cell hl
          have hll : l.length ≤ 3000 := by have := HALL.out l (List.mem_of_getElem? hl); have := HTS.out; omega
          have hml := mr_len ls M a K (by omega)
          have hsu := HSUM.out; have hmm := HML.out
          by_cases hKa : (K : Int) = a
          · obtain ⟨X1, X2, X3, A1, A2, A3, hX3⟩ := sums11a (mrL ls M a K) M (by omega) (by omega)
            obtain ⟨Y1, Y2, D1, D2, hY2⟩ := sums11b (mrL ls M a K ++ 35 :: 32 :: (M ++ [10, 32, 9, 10])) l (by simp; omega) (by omega)
            rw [← hX3] at D2
            rw [mr_next ls M a K l hlg hKa] at hY2
            rw [HMR.out] at A1
            have HY := Lib.hid hY2
            have HKa : ((K : Int) == a) = true := beq_iff_eq.2 hKa
            clear hX3 hY2 hKa hl hlg hll hml hsu hmm hK2
            generalize mrL ls M a K = mk at *
            go_wp2
            go_roundg (N2 - (K + 1))
            case measure => omega
            case rel => exact ⟨K + 1, by omega, by omega, by go_num, by rw [HY.out], rfl⟩
          · obtain ⟨Y1, Y2, D1, D2, hY2⟩ := sums11b (mrL ls M a K) l (by omega) (by omega)
            rw [mr_plain ls M a K l hlg hKa] at hY2
            have HY := Lib.hid hY2
            have HKa : ((K : Int) == a) = false := beq_eq_false_iff_ne.2 hKa
            clear hY2 hKa hl hlg hll hml hsu hmm hK2
            generalize mrL ls M a K = mk at *
            go_wp2
            go_roundg (N2 - (K + 1))
            case measure => omega
            case rel => exact ⟨K + 1, by omega, by omega, by go_num, by rw [HY.out], rfl⟩
        · have hltz2 : ¬ (K : Int) < (N2 : Int) := by omega
          obtain rfl : N2 = K := by omega
          have hgo := go_more t.data.toList M NF.out a
          rw [← HLS.out, HN2.out] at hgo
          have hlen := mr_bd t.data.toList M a
          rw [← HLS.out, HN2.out] at hlen
          have hlen2 : (mrL ls M a N2).length ≤ 65535 := by have := HML.out; have := HTS.out; omega
          have HGO := Lib.hid hgo.symm; have HLE := Lib.hid hlen2
          clear hgo hlen hlen2
          generalize mrL ls M a N2 = X at *
          have hR := (HRD.out X HGO.out HLE.out).2
          have HR := Lib.hid hR
          clear hR
          go_wp2_with fail
          refine (HP1.out _ S.out).mono ?_
          rintro e3 w3 ⟨g, rfl, hb, ht1⟩
          have B := Lib.hid (B.out.trans (hb.mono B.out.size)); have S := Lib.hid (S.out.below hb); have T := Lib.hid ht1
          clear hb ht1
          go_wp2_with fail
          refine (HP2.out X HGO.out HLE.out _ S.out).mono ?_
          rintro e4 w4 ⟨g2, rfl, hb, ht2⟩
          rw [← HR.out] at ht2
          have B := Lib.hid (B.out.trans (hb.mono B.out.size)); have T := Lib.hid (T.out.below hb); have T2 := Lib.hid ht2
          clear hb ht2
          go_wp2_with (go_at_call 10; with_reducible refine (num_any _ _ EB.out.1 EB.out.2).mono ?_; rintro e w' ⟨rfl, rfl⟩)
          refine (HSa.out _ _ _ _ _ T.out T2.out).mono ?_
          rintro e5 w5 ⟨rfl, hb⟩
          have B := Lib.hid (B.out.trans (hb.mono B.out.size))
          clear hb
          go_wp2_with fail
          go_ret
          exact ⟨rfl, B.out⟩

set_option maxRecDepth 100000 in
set_option maxHeartbeats 8000000 in
theorem remarks11_no (t r : ByteArray) (a : Int) (w : World) (hs : S11 w) (ht : t.size ≤ 3000) (hr : r.size ≤ 100) (hp : pZ11 t.data.toList ≠ 0) :
    Calls Tryz.prog 6 #[.string t, .string r, .int .i64 a] w fun x w' => x = .returned (.bool true) ∧ Below w.heap.size w w' := by
  have B : Hid (Below w.heap.size w w) := Lib.hid (Below.refl _ _)
  have S := Lib.hid hs
  have HAl := Lib.hid (fun W hs => alive11_any W hs)
  have HLn := Lib.hid (fun W => lines_any t W (by omega))
  have hz1 : ¬ (3000 : Int) < (t.size : Int) := by omega
  have hz2 : ¬ (100 : Int) < (r.size : Int) := by omega
  have hts : t.data.toList.length = t.size := by rw [Array.length_toList]; rfl
  have hrs : r.data.toList.length = r.size := by rw [Array.length_toList]; rfl
  have hall := lnL_all t.data.toList
  have hsum := lnL_sum t.data.toList
  obtain ⟨M, hM⟩ : ∃ M, M = r.data.toList := ⟨_, rfl⟩
  have hMr : (⟨M.toArray⟩ : ByteArray) = r := by rw [hM]
  have HMR := Lib.hid hMr
  have hrd := fun (X : List UInt8) (hx : go11 (lnL t.data.toList) zr11 = go11 (lnL X) zr11) (hl : X.length ≤ 65535) => same_read hx (by omega) hl
  have q0 := fun op t W x k => guard_ev op t W x k
  have q1 := fun W k => eql_ev W k
  have q2 := fun W k => neq_ev W k
  have HP1 := Lib.hid (fun W (h : S11 W) => parse11_no t W h hp)
  have HP2 : Hid (∀ (X : List UInt8) (hx : go11 (lnL t.data.toList) zr11 = go11 (lnL X) zr11) (hl : X.length ≤ 65535) (W : World) (h : S11 W), Calls Tryz.prog 8 #[.string ⟨X.toArray⟩] W fun x w' => x = .returned (.tuple #[.pointer none, ev (pZ11 t.data.toList)]) ∧ Below W.heap.size W w') := Lib.hid (fun X hx hl W h => by
    have e := (hrd X hx hl).1
    have := parse11_no ⟨X.toArray⟩ W h (by simpa using (fun q => hp (e.trans q)))
    rw [show ((⟨X.toArray⟩ : ByteArray).data.toList) = X by simp, ← e] at this
    exact this)
  have HSn := Lib.hid (fun W => same_nil W)
  have EB : Hid (0 ≤ pZ11 t.data.toList ∧ pZ11 t.data.toList < 100) := Lib.hid (by
    unfold pZ11 pE11
    have h1 := paE11_lo (rg11 t.data.toList)
    rw [if_pos (by omega)]
    split
    · exact h1
    · exact go_lo _ _)
  have HRD := Lib.hid hrd
  obtain ⟨ls, hls⟩ : ∃ ls, ls = lnL t.data.toList := ⟨_, rfl⟩
  have HLS := Lib.hid hls
  rw [← hls] at hall hsum HLn HP2 HRD
  have HALL := Lib.hid hall; have HSUM : Hid (ls.flatten.length + ls.length ≤ 3001) := Lib.hid (by omega)
  have HML : Hid (M.length ≤ 100) := Lib.hid (by rw [hM]; omega)
  have HMd := Lib.hid hM
  obtain ⟨N2, hN2⟩ : ∃ N2, ls.length = N2 := ⟨_, rfl⟩
  have HN2 := Lib.hid hN2
  obtain ⟨N, hN⟩ : ∃ N, N = r.size := ⟨_, rfl⟩
  have HN := Lib.hid hN
  have HTS := Lib.hid hts
  clear hs hp hall hsum hrd hls hM hMr hN2 hN hr hrs ht hts
  go_enter Tryz.func6, Tryz.ntmps6
  go_wp2_with fail
  refine (HAl.out _ S.out).mono ?_
  rintro e1 w1 ⟨rfl, hb⟩
  have B := Lib.hid (B.out.trans (hb.mono B.out.size)); have S := Lib.hid (S.out.below hb)
  clear hb
  go_wp2
  go_loopg [7] N (fun gg s7 wr => ∃ k : Nat, k ≤ N ∧ N - k ≤ gg ∧ s7 = .int .i64 k ∧ wr = w1 ∧ Hid (∀ j : Nat, j < k → M[j]? ≠ some 10))
  case atStart => exact ⟨0, Nat.zero_le _, by omega, rfl, rfl, Lib.hid (fun j hj => absurd hj (Nat.not_lt_zero _))⟩
  case round =>
    obtain ⟨k, hk, hgg, rfl, rfl, F⟩ := hrel
    by_cases hlt : k < N
    · have hks : k < r.size := by have := HN.out; omega
      have hltz : (k : Int) < (r.size : Int) := by omega
      have hb := byte_at hks
      rw [← HMd.out] at hb
      by_cases h10 : r[k] = 10
      · have t1 : ((r[k].toNat : Int) == 10) = true := by rw [h10]; rfl
        clear hb h10
        go_wp2
        go_ret
        exact ⟨rfl, B.out⟩
      · have t1 : ((r[k].toNat : Int) == 10) = false := by
          have : r[k].toNat ≠ 10 := fun e => h10 (UInt8.toNat_inj.1 (by rw [e]; rfl))
          simp; omega
        have F2 : Hid (∀ j : Nat, j < k + 1 → M[j]? ≠ some 10) := Lib.hid (fun j hj => if c : j = k then (by subst c; rw [hb]; intro q; exact h10 (Option.some.inj q)) else F.out j (by omega))
        clear hb h10
        go_wp2
        go_roundg (N - (k + 1))
        case measure => omega
        case rel => exact ⟨k + 1, by omega, by omega, by go_num, rfl, F2⟩
    · have hltz : ¬ (k : Int) < (r.size : Int) := by have := HN.out; omega
      have hkl : k = M.length := by
        have h1 := HN.out
        have h2 : M.length = r.size := by rw [HMd.out, Array.length_toList]; rfl
        omega
      have NF : Hid (noF M) := Lib.hid (fun b hb => no_byte (fun j hj => by
        have hj2 := (List.getElem?_eq_some_iff.1 hj).1
        exact F.out j (by omega) hj) b hb)
      clear F hkl
      go_wp2_with fail
      refine (HLn.out _).mono ?_
      rintro e2 w2 ⟨v2, rfl, hv2, hb⟩
      obtain ⟨A8, cq, rfl, -, -⟩ := hv2.reads
      rw [HN2.out] at hv2 ⊢
      have O3 := Lib.hid hv2
      have B := Lib.hid (B.out.trans (hb.mono B.out.size)); have S := Lib.hid (S.out.below hb)
      clear hb hv2
      go_wp2
      go_loopg [40, 9] N2 (fun gg s40 s9 wr => ∃ K : Nat, K ≤ N2 ∧ N2 - K ≤ gg ∧ s40 = .int .i64 K ∧ s9 = .string ⟨(mrL ls M a K).toArray⟩ ∧ wr = w2)
      case atStart => exact ⟨0, Nat.zero_le _, by omega, rfl, rfl, rfl⟩
      case round =>
        obtain ⟨K, hK, hg2, rfl, rfl, rfl⟩ := hrel
        by_cases hlt2 : K < N2
        · have hltz2 : (K : Int) < (N2 : Int) := by omega
          have hn2 : N2 ≤ 3001 := by have := HSUM.out; have := HN2.out; omega
          have hK2 : K < ls.length := by have := HN2.out; omega
          obtain ⟨l, hl⟩ : ∃ l, ls[K]? = some l := ⟨_, List.getElem?_eq_getElem hK2⟩
          have hlg : ls.getD K [] = l := by rw [List.getD, hl]; rfl
          have Q8 : ∃ g8, A8 = some ⟨g8, 0, none⟩ := by
            rcases O3.out.2 with ⟨hv, hn⟩ | ⟨g8, cap, cur, hv, -⟩
            · have := HN2.out; omega
            · injection hv with hv; exact ⟨g8, hv⟩
          obtain ⟨g8, rfl⟩ := Q8
          have C5 : wr.cell? ⟨g8, K, none⟩ = some (.string ⟨l.toArray⟩) := O3.out.cell hl
          have hll : l.length ≤ 3000 := by have := HALL.out l (List.mem_of_getElem? hl); have := HTS.out; omega
          have hml := mr_len ls M a K (by omega)
          have hsu := HSUM.out; have hmm := HML.out
          by_cases hKa : (K : Int) = a
          · obtain ⟨X1, X2, X3, A1, A2, A3, hX3⟩ := sums11a (mrL ls M a K) M (by omega) (by omega)
            obtain ⟨Y1, Y2, D1, D2, hY2⟩ := sums11b (mrL ls M a K ++ 35 :: 32 :: (M ++ [10, 32, 9, 10])) l (by simp; omega) (by omega)
            rw [← hX3] at D2
            rw [mr_next ls M a K l hlg hKa] at hY2
            rw [HMR.out] at A1
            have HY := Lib.hid hY2
            have HKa : ((K : Int) == a) = true := beq_iff_eq.2 hKa
            clear hX3 hY2 hKa hl hlg hll hml hsu hmm hK2
            generalize mrL ls M a K = mk at *
            go_wp2
            go_roundg (N2 - (K + 1))
            case measure => omega
            case rel => exact ⟨K + 1, by omega, by omega, by go_num, by rw [HY.out], rfl⟩
          · obtain ⟨Y1, Y2, D1, D2, hY2⟩ := sums11b (mrL ls M a K) l (by omega) (by omega)
            rw [mr_plain ls M a K l hlg hKa] at hY2
            have HY := Lib.hid hY2
            have HKa : ((K : Int) == a) = false := beq_eq_false_iff_ne.2 hKa
            clear hY2 hKa hl hlg hll hml hsu hmm hK2
            generalize mrL ls M a K = mk at *
            go_wp2
            go_roundg (N2 - (K + 1))
            case measure => omega
            case rel => exact ⟨K + 1, by omega, by omega, by go_num, by rw [HY.out], rfl⟩
        · have hltz2 : ¬ (K : Int) < (N2 : Int) := by omega
          obtain rfl : N2 = K := by omega
          have hgo := go_more t.data.toList M NF.out a
          rw [← HLS.out, HN2.out] at hgo
          have hlen := mr_bd t.data.toList M a
          rw [← HLS.out, HN2.out] at hlen
          have hlen2 : (mrL ls M a N2).length ≤ 65535 := by have := HML.out; have := HTS.out; omega
          have HGO := Lib.hid hgo.symm; have HLE := Lib.hid hlen2
          clear hgo hlen hlen2
          generalize mrL ls M a N2 = X at *
          have EB2 := EB
          generalize pZ11 t.data.toList = pz at *
          go_wp2_with fail
          refine (HP1.out _ S.out).mono ?_
          rintro e3 w3 ⟨rfl, hb⟩
          have B := Lib.hid (B.out.trans (hb.mono B.out.size)); have S := Lib.hid (S.out.below hb)
          clear hb
          go_wp2_with fail
          refine (HP2.out X HGO.out HLE.out _ S.out).mono ?_
          rintro e4 w4 ⟨rfl, hb⟩
          have B := Lib.hid (B.out.trans (hb.mono B.out.size))
          clear hb
          go_wp2_with (go_at_call 10; with_reducible refine (num_any _ _ EB.out.1 EB.out.2).mono ?_; rintro e w' ⟨rfl, rfl⟩)
          refine (HSn.out _).mono ?_
          rintro e5 w5 ⟨rfl, rfl⟩
          go_wp2_with fail
          go_ret
          exact ⟨rfl, B.out⟩

theorem remarks11_walk (t r : ByteArray) (a : Int) (w : World) (hs : S11 w) :
    Calls Tryz.prog 6 #[.string t, .string r, .int .i64 a] w fun x w' => x = .returned (.bool true) ∧ Below w.heap.size w w' := by
  by_cases ht : 3000 < t.size
  · exact remarks11_big t r a w hs ht
  by_cases hr : 100 < r.size
  · exact remarks11_wide t r a w hs ht hr
  by_cases hp : pZ11 t.data.toList = 0
  · exact remarks11_yes t r a w hs (by omega) (by omega) hp
  · exact remarks11_no t r a w hs (by omega) (by omega) hp

end Go.Proofs.YtiamggjebaabkaaGreatDoor
