/- ScanWhole: what was taken, and what is left. -/
import Derived.Test.YtelogbkhplegaaaSLawA
import Derived.Test.YtelogbkhplegaaaActZ
namespace Go.Proofs.Ytelogbkhplegaaa
open Go.RowKit
set_option linter.unusedVariables false

theorem cut_mid {s : ByteArray} {k K : Nat} (h1 : k ≤ K) : s.extract k K = ⟨((s.data.toList.drop k).take (K - k)).toArray⟩ := by
  have : (s.extract k K).data.toList = (s.data.toList.drop k).take (K - k) := by rw [Lib.extract_data]
  rw [← this]
theorem took (s : ByteArray) (k : Nat) (e : Int) {n : Nat} (hn : n ≤ (rs s.data.toList k e).length) : s.extract k (k + n) = ⟨((rs s.data.toList k e).take n).toArray⟩ := by
  rw [cut_mid (by omega), show k + n - k = n by omega]
  by_cases h0 : e = 0
  · subst h0; rw [rs_zero]
  · rw [rs_bad _ _ h0] at hn ⊢
    have : n = 0 := by simpa using hn
    subst this; rfl
/-- An act of a scanner of strings, beside the document's fresh one. -/
theorem act_fresh (g k : Nat) (e : Int) (s : ByteArray) (a : ActD) (w : World) (h : Sk Ts w g (.string s) k e) (hk : k ≤ s.size) (hs : s.size ≤ 1000) (he : 0 ≤ e) (he' : e < 100) (ha : a.Ok w) (hL : Away a.list a.L g) (hsm : a.Small) :
    Calls Try.prog 11 #[.pointer (some ⟨g, 0, none⟩), .agg #[.string s, .int .i64 0, .int .i64 0], .agg #[.int .i64 a.kind, .int .u8 (a.b.toNat : Int), .string a.word, .slice a.L a.list.length a.cl, .int .i64 a.least, .int .i64 a.most]] w fun x w' =>
      ∃ (M : Nat) (F : Int) (t : Bool), x = .returned (.tuple #[.agg #[.string s, .int .i64 (M : Int), .int .i64 F], .bool t]) ∧ Sk Ts w' g (.string s) (acK s.data.toList a k e) (acE s.data.toList a k e) ∧ w.grownBy w' (some g) :=
  (act_s g k 0 e 0 (.string s) s a w h rfl hk (Nat.zero_le _) hs he he' ha hL hsm (fun A n c ad h => by cases h)).mono fun x w' ⟨t, h1, _, h3, h4⟩ => ⟨_, _, t, h1, h3, h4⟩
/-- What holds of the scanner's block at each round. -/
def Wr (W : World) (g : Nat) (s : ByteArray) (W' : World) (k : Nat) (e : Int) : Prop := Sk Ts W' g (.string s) k e ∧ k ≤ s.size ∧ 0 ≤ e ∧ e < 100 ∧ Below W.heap.size W W'

set_option maxRecDepth 100000 in
set_option maxHeartbeats 6400000 in
theorem whole_walk (s : ByteArray) (A : Option Addr) (ac : List ActD) (c : Nat) (w : World) (h : Ra w A ac) (hm : ac.length ≤ maxLen) (hs : s.size ≤ maxLen) (hz : ∀ a ∈ ac, a.word.size ≤ maxLen ∧ a.list.length ≤ maxLen ∧ ∀ z ∈ a.list, z.size ≤ maxLen) :
    Calls Try.prog 4 #[.string s, .slice A ac.length c] w fun x w' => x = .returned (.bool true) ∧ Below w.heap.size w w' := by
  have HLO := fun W (hW : Below w.heap.size w W) => Lib.hid (long_any s A ac c W (h.below hW) hm hs hz)
  have HR := Lib.hid h
  cases hl : lg s ac
  · obtain ⟨hs3, hn6, hsmall⟩ := lg_no hl
    rw [hl] at HLO
    have HSM := Lib.hid hsmall
    obtain ⟨nn, hnn⟩ : ∃ nn, nn = ac.length := ⟨_, rfl⟩
    rw [← hnn] at hn6 HLO ⊢
    have HNN := Lib.hid hnn
    have hsl : s.data.toList.length = s.size := by simp
    have HSL := Lib.hid hsl
    clear h hm hs hz hl hsmall hnn hsl
    go_enter Try.func4, Try.ntmps4
    go_wp2_with fail
    refine (salive w).mono ?_
    rintro x W1 ⟨rfl, hb⟩
    have B1 := Lib.hid hb
    clear hb
    go_wp2_with fail
    refine (HLO W1 B1.out).out.mono ?_
    rintro x W2 ⟨rfl, hb⟩
    have B2 := Lib.hid (B1.out.trans (hb.mono B1.out.size))
    clear hb B1 HLO
    go_wp2_with fail
    refine (new_s s W2).mono ?_
    rintro x w3 ⟨rfl, rfl⟩
    have h3 : Sk Ts (W2.alloc (.cells #[.string s, .int .i64 0, .nilIface] Ts)) W2.heap.size (.string s) 0 0 := heap_alloc_new W2 _
    have hb3 := B2.out.alloc B2.out.size (.cells #[.string s, .int .i64 0, .nilIface] Ts)
    have HGW : RowKit.Hid (w.heap.size ≤ W2.heap.size) := B2.out.size
    generalize World.alloc W2 _ = W3 at h3 hb3 ⊢
    generalize W2.heap.size = g at *
    have H0 : RowKit.Hid (Wr w g s W3 0 0) := ⟨h3, Nat.zero_le _, by decide, by decide, hb3⟩
    clear h3 hb3 B2
    go_wp2_with fail
    go_loopw [7, 8, 9, 10, 20] (fun _ _ _ _ i wr => ∃ (j k : Nat) (e : Int), i = .int .i64 j ∧ j ≤ nn ∧ Hid (Wr w g s wr k e)) (fun _ _ _ _ i _ => nn - (intOf i).toNat)
    case atStart => exact ⟨0, 0, 0, rfl, Nat.zero_le _, H0⟩
    case round =>
      obtain ⟨j, k, e, rfl, hj, HW⟩ := hrel
      clear H0
      obtain ⟨hS, hk, he, he', hB⟩ := HW.out
      have HS := Lib.hid hS; have HB := Lib.hid hB
      clear hS hB HW
      by_cases hlt : j < nn
      · have hlt' : j < ac.length := by have := HNN.out; omega
        obtain ⟨b, off, a, hja, hA, hbl, hok, e0, e1, e2, e3, e4, e5⟩ := (HR.out.below HB.out).at_ hlt'
        have hsm := HSM.out a (List.mem_of_getElem? hja)
        have hLa : Away a.list a.L g := (HR.out.1 a (List.mem_of_getElem? hja)).ls.away HGW.out
        have HLA := Lib.hid hLa; have HOK := Lib.hid hok; have HSMA := Lib.hid hsm
        subst hA
        clear hja hlt' hbl hsm hLa hok
        have hk4 : Ak (wr.alloc (.cells a.cells Ta)) wr.heap.size a := heap_alloc_new wr _
        have hb4 := (Below.refl wr.heap.size wr).alloc (Nat.le_refl _) (.cells a.cells Ta)
        have hS4 := HS.out.below hb4 HS.out.lt
        have hB4 := HB.out.trans (hb4.mono HB.out.size)
        have hok4 : a.Ok (wr.alloc (.cells a.cells Ta)) := HOK.out.below hb4
        go_upto_region 9 with fail
        generalize World.alloc wr _ = W4 at hk4 hS4 hB4 hok4 ⊢
        clear hb4
        generalize wr.heap.size = c4 at *
        have hAT := fun n => (at_s g k e (.string s) (W4.drewN n) hS4).mono fun _ _ ⟨h1, h2⟩ => (⟨h1, h2.symm⟩ : _ ∧ _)
        have hER := fun n => (err_s g k e (.string s) (W4.drewN n) hS4).mono fun _ _ ⟨h1, h2⟩ => (⟨h1, h2.symm⟩ : _ ∧ _)
        have HAT := Lib.hid hAT; have HER := Lib.hid hER
        have K4 := Lib.hid hk4; have S4 := Lib.hid hS4; have B4 := Lib.hid hB4; have HOK4 := Lib.hid hok4
        have q0 := fun W op t x k => guard_ev op t W x k
        have q2 := fun W k => neq_ev W k
        clear e0 e1 e2 e3 e4 e5 hAT hER hk4 hS4 hB4 hok4 HOK HS HB
        go_quiet ((first
          | (go_at_call 14; exact Calls.quiet_of_same (HAT.out _))
          | (go_at_call 15; exact Calls.quiet_of_same (HER.out _))))
        have hK5 : Ak (W4.drewN nq) c4 a := K4.out
        have hS5 : Sk Ts (W4.drewN nq) g (.string s) k e := S4.out
        have hB5 := belowdraws B4.out nq
        have hok5 : a.Ok (W4.drewN nq) := ⟨HOK4.out.k, HOK4.out.lo, HOK4.out.hi, HOK4.out.ls⟩
        generalize World.drewN W4 nq = W5 at hK5 hS5 hB5 hok5 ⊢
        have S5 := Lib.hid hS5; have B5 := Lib.hid hB5; have HOK5 := Lib.hid hok5
        have a0 := hK5.cell 0; have a1 := hK5.cell 1; have a2 := hK5.cell 2; have a3 := hK5.cell 3; have a4 := hK5.cell 4; have a5 := hK5.cell 5
        clear hK5 hS5 hB5 hok5 HAT HER K4 S4 B4 HOK4
        have hs1 : s.size ≤ 1000 := by omega
        have hKs : acK s.data.toList a k e ≤ s.size := by rw [← HSL.out]; exact acK_le (by rw [HSL.out]; exact hk)
        have hKk := acK_ge s.data.toList a k e
        obtain ⟨hE1, hE2⟩ := acE_lo (l := s.data.toList) (a := a) (k := k) he he'
        have hbad : e ≠ 0 → acK s.data.toList a k e = k := fun h => acK_bad _ a k h
        have hACT := act_fresh g k e s a W5 S5.out hk hs1 he he' HOK5.out HLA.out HSMA.out
        have hrun : a.n = 2 → Calls Try.prog 16 #[.pointer (some ⟨g, 0, none⟩), .string a.word] W5 fun x w' =>
            x = .returned (.string (s.extract k (acK s.data.toList a k e))) ∧ Mv Ts g (.string s) (acK s.data.toList a k e) (acE s.data.toList a k e) W5 w' := by
          intro hn
          have e1 : acK s.data.toList a k e = k + tw (inB a.word.data.toList) (rs s.data.toList k e) := by unfold acK; rw [hn]; rfl
          have e2 : acE s.data.toList a k e = e := by unfold acE; rw [hn]; rfl
          have e3 : s.extract k (acK s.data.toList a k e) = ⟨((rs s.data.toList k e).take (tw (inB a.word.data.toList) (rs s.data.toList k e))).toArray⟩ := by rw [e1]; exact took s k e (tw_le _ _)
          rw [e3, e1, e2]
          exact run_s g k e (.string s) s a.word W5 S5.out rfl hk hs1
        have huntil : a.n = 3 → Calls Try.prog 17 #[.pointer (some ⟨g, 0, none⟩), .int .u8 (a.b.toNat : Int)] W5 fun x w' =>
            x = .returned (.string (s.extract k (acK s.data.toList a k e))) ∧ Mv Ts g (.string s) (acK s.data.toList a k e) (acE s.data.toList a k e) W5 w' := by
          intro hn
          have e1 : acK s.data.toList a k e = k + tw (noB a.b) (rs s.data.toList k e) := by unfold acK; rw [hn]; rfl
          have e2 : acE s.data.toList a k e = e := by unfold acE; rw [hn]; rfl
          have e3 : s.extract k (acK s.data.toList a k e) = ⟨((rs s.data.toList k e).take (tw (noB a.b) (rs s.data.toList k e))).toArray⟩ := by rw [e1]; exact took s k e (tw_le _ _)
          rw [e3, e1, e2]
          exact until_s g k e (.string s) s a.b W5 S5.out rfl hk hs1
        generalize acK s.data.toList a k e = K at *
        generalize acE s.data.toList a k e = E at *
        have HACT := Lib.hid hACT; have HRUN := Lib.hid hrun; have HUN := Lib.hid huntil
        obtain ⟨TK, hTK⟩ : ∃ TK, TK = s.extract k K := ⟨_, rfl⟩
        rw [← hTK] at HRUN HUN
        have hTK' : s.extract k K = TK := hTK.symm
        clear hTK hACT hrun huntil
        have hu : IntKind.u64.wrap a.kind = a.u := rfl
        have hu0 : 0 ≤ a.u := by unfold ActD.u; simp [IntKind.wrap, IntKind.signed, IntKind.bits]; omega
        obtain ⟨m, hm⟩ : ∃ m : Int, m = a.n := ⟨_, rfl⟩
        have hn1 : a.u % 9 = m := hm.symm
        have hn2 : Int.tmod a.u 9 = m := by rw [Int.tmod_eq_emod_of_nonneg hu0]; exact hm.symm
        have HMM := Lib.hid hm
        clear hm
        have l1 : decide ((K : Int) < (k : Int)) = false := by simp; omega
        have l2 : decide (K < k) = false := by simp; omega
        have l3 : decide ((s.size : Int) < (K : Int)) = false := by simp; omega
        have l4 : decide (s.size < K) = false := by simp; omega
        by_cases h0 : e = 0
        · have hz : (e != 0) = false := by rw [h0]; rfl
          clear hbad h0
          by_cases h2 : m = 2
          · have HRN := Lib.hid (HRUN.out (by rw [← HMM.out, h2]))
            subst h2
            clear HRUN HUN HACT HMM
            go_wp2_with fail
            refine HRN.out.mono ?_
            rintro x W6 ⟨rfl, hS6, hgb⟩
            have H6 : RowKit.Hid (Wr w g s W6 K E) := ⟨hS6, hKs, hE1, hE2, B5.out.trans (gb_bel hgb HGW.out B5.out.size)⟩
            have HAT6 := Lib.hid (at_s g K E (.string s) W6 hS6)
            clear hS6 hgb
            go_wp2_with (go_at_call 14; refine HAT6.out.mono ?_; rintro x w' ⟨rfl, rfl⟩)
            go_roundw
            case rel => exact ⟨j + 1, K, E, by go_num, by omega, H6⟩
            case measure => simp [intOf]; omega
          · have m2 : (m == 2) = false := beq_eq_false_iff_ne.2 h2
            clear h2
            by_cases h3 : m = 3
            · have HUT := Lib.hid (HUN.out (by rw [← HMM.out, h3]))
              subst h3
              clear HRUN HUN HACT HMM
              go_wp2_with fail
              refine HUT.out.mono ?_
              rintro x W6 ⟨rfl, hS6, hgb⟩
              have H6 : RowKit.Hid (Wr w g s W6 K E) := ⟨hS6, hKs, hE1, hE2, B5.out.trans (gb_bel hgb HGW.out B5.out.size)⟩
              have HAT6 := Lib.hid (at_s g K E (.string s) W6 hS6)
              clear hS6 hgb
              go_wp2_with (go_at_call 14; refine HAT6.out.mono ?_; rintro x w' ⟨rfl, rfl⟩)
              go_roundw
              case rel => exact ⟨j + 1, K, E, by go_num, by omega, H6⟩
              case measure => simp [intOf]; omega
            · have m3 : (m == 3) = false := beq_eq_false_iff_ne.2 h3
              clear h3 HRUN HUN HMM
              go_wp2_with fail
              refine HACT.out.mono ?_
              rintro x W6 ⟨M, F, t, rfl, hS6, hgb⟩
              have H6 : RowKit.Hid (Wr w g s W6 K E) := ⟨hS6, hKs, hE1, hE2, B5.out.trans (gb_bel hgb HGW.out B5.out.size)⟩
              have HAT6 := Lib.hid (at_s g K E (.string s) W6 hS6)
              clear hS6 hgb
              go_wp2_with (go_at_call 14; refine HAT6.out.mono ?_; rintro x w' ⟨rfl, rfl⟩)
              go_roundw
              case rel => exact ⟨j + 1, K, E, by go_num, by omega, H6⟩
              case measure => simp [intOf]; omega
        · have hz : (e != 0) = true := bne_iff_ne.mpr h0
          have hKe : K = k := hbad h0
          have l5 : ((K : Int) != (k : Int)) = false := by rw [hKe]; simp
          have l6 : (K != k) = false := by rw [hKe]; simp
          have HKE := Lib.hid hKe
          clear hbad h0 hKe
          by_cases h2 : m = 2
          · have HRN := Lib.hid (HRUN.out (by rw [← HMM.out, h2]))
            subst h2
            clear HRUN HUN HACT HMM
            go_wp2_with fail
            refine HRN.out.mono ?_
            rintro x W6 ⟨rfl, hS6, hgb⟩
            have H6 : RowKit.Hid (Wr w g s W6 K E) := ⟨hS6, hKs, hE1, hE2, B5.out.trans (gb_bel hgb HGW.out B5.out.size)⟩
            have HAT6 := Lib.hid (at_s g K E (.string s) W6 hS6)
            clear hS6 hgb
            go_wp2_with (go_at_call 14; refine HAT6.out.mono ?_; rintro x w' ⟨rfl, rfl⟩)
            go_roundw
            case rel => exact ⟨j + 1, K, E, by go_num, by omega, H6⟩
            case measure => simp [intOf]; omega
          · have m2 : (m == 2) = false := beq_eq_false_iff_ne.2 h2
            clear h2
            by_cases h3 : m = 3
            · have HUT := Lib.hid (HUN.out (by rw [← HMM.out, h3]))
              subst h3
              clear HRUN HUN HACT HMM
              go_wp2_with fail
              refine HUT.out.mono ?_
              rintro x W6 ⟨rfl, hS6, hgb⟩
              have H6 : RowKit.Hid (Wr w g s W6 K E) := ⟨hS6, hKs, hE1, hE2, B5.out.trans (gb_bel hgb HGW.out B5.out.size)⟩
              have HAT6 := Lib.hid (at_s g K E (.string s) W6 hS6)
              clear hS6 hgb
              go_wp2_with (go_at_call 14; refine HAT6.out.mono ?_; rintro x w' ⟨rfl, rfl⟩)
              go_roundw
              case rel => exact ⟨j + 1, K, E, by go_num, by omega, H6⟩
              case measure => simp [intOf]; omega
            · have m3 : (m == 3) = false := beq_eq_false_iff_ne.2 h3
              clear h3 HRUN HUN HMM
              go_wp2_with fail
              refine HACT.out.mono ?_
              rintro x W6 ⟨M, F, t, rfl, hS6, hgb⟩
              have H6 : RowKit.Hid (Wr w g s W6 K E) := ⟨hS6, hKs, hE1, hE2, B5.out.trans (gb_bel hgb HGW.out B5.out.size)⟩
              have HAT6 := Lib.hid (at_s g K E (.string s) W6 hS6)
              clear hS6 hgb
              go_wp2_with (go_at_call 14; refine HAT6.out.mono ?_; rintro x w' ⟨rfl, rfl⟩)
              go_roundw
              case rel => exact ⟨j + 1, K, E, by go_num, by omega, H6⟩
              case measure => simp [intOf]; omega
      · have hnj : j = nn := by omega
        clear hnj
        have hAT := at_s g k e (.string s) wr HS.out
        have hER := err_s g k e (.string s) wr HS.out
        have hLF := left_s g k e (.string s) s wr HS.out rfl hk (by omega)
        have hl := rs_len s.data.toList k e
        rw [HSL.out] at hl
        generalize (rs s.data.toList k e).length = n at *
        have HAT := Lib.hid hAT; have HER := Lib.hid hER; have HLF := Lib.hid hLF
        have q0 := fun W op t x k => guard_ev op t W x k
        have q2 := fun W k => neq_ev W k
        clear hAT hER hLF
        by_cases h0 : e = 0
        · rw [if_pos h0] at hl
          have hz : (e != 0) = false := by rw [h0]; rfl
          have hsum : (k : Int) + (n : Int) = (s.size : Int) := by omega
          have hsum2 : IntKind.i64.wrap ((k : Int) + (n : Int)) = (s.size : Int) := by rw [hsum]; simp [IntKind.wrap, IntKind.signed, IntKind.bits]; omega
          clear hl h0
          go_wp2_with (first
            | (go_at_call 14; refine HAT.out.mono ?_; rintro x w' ⟨rfl, rfl⟩)
            | (go_at_call 15; refine HER.out.mono ?_; rintro x w' ⟨rfl, rfl⟩)
            | (go_at_call 18; refine HLF.out.mono ?_; rintro x w' ⟨rfl, nq, rfl⟩))
          go_ret
          exact ⟨rfl, belowdraws HB.out _⟩
        · have hz : (e != 0) = true := bne_iff_ne.mpr h0
          clear hl h0
          go_wp2_with (first
            | (go_at_call 14; refine HAT.out.mono ?_; rintro x w' ⟨rfl, rfl⟩)
            | (go_at_call 15; refine HER.out.mono ?_; rintro x w' ⟨rfl, rfl⟩)
            | (go_at_call 18; refine HLF.out.mono ?_; rintro x w' ⟨rfl, nq, rfl⟩))
          go_ret
          exact ⟨rfl, HB.out⟩
  · rw [hl] at HLO
    clear h hl
    go_enter Try.func4, Try.ntmps4
    go_wp2_with fail
    refine (salive w).mono ?_
    rintro x W1 ⟨rfl, hb⟩
    have B1 := Lib.hid hb
    clear hb
    go_wp2_with fail
    refine (HLO W1 B1.out).out.mono ?_
    rintro x W2 ⟨rfl, hb⟩
    have B2 := Lib.hid (B1.out.trans (hb.mono B1.out.size))
    clear hb B1 HLO
    go_wp2
    go_ret
    exact ⟨rfl, B2.out⟩
end Go.Proofs.Ytelogbkhplegaaa
