/- Merged: ListD. -/
import Derived.Test.YtdonicaiimeleaaGreatDoorGListParses3
import Derived.Test.YtdonicaiimeleaaGreatDoorGListParses5
import Derived.Test.YtdonicaiimeleaaGreatDoorGListParses9
namespace Go.Proofs.YtdonicaiimeleaaGreatDoor
open Go.RowKit Go.WideShapes Go.ChangeShapes
set_option linter.unusedVariables false
set_option linter.unusedSimpArgs false

theorem results_three {fn : Func} {t u v : Tmp} (h : fn.results = #[.tmp t, .tmp u, .tmp v]) (tmps : Array Value) (P : Program) (w : World) :
    (results fn tmps).run P w = .ok (.tuple #[tmps.getD t undef, tmps.getD u undef, tmps.getD v undef]) w := by
  simp [results, h]
/-- Whole of a word, by its list. -/
theorem whole_word (u : List UInt8) (b : Int) (w : World) (hu : u.length ≤ 200000) (hb : fits b) :
    Calls Tryz.prog 58 #[.string ⟨u.toArray⟩, .int .i64 1, .int .i64 b] w fun e w' => e = .returned (.tuple #[.int .i64 (whN u 1 b mx : Nat), .int .i64 (whE u 1 b mx)]) ∧ Below w.heap.size w w' :=
  rwhole_any ⟨u.toArray⟩ 1 b w (by rw [Lib.size_mk]; unfold maxLen; omega) (by decide) hb
/-- A word of a row of words. -/
theorem Rs.at {w : World} {A : Option Addr} {ls : List (List UInt8)} (h : Rs w A ls) {i : Nat} {u : List UInt8} (hi : ls[i]? = some u) : ∃ b off, A = some ⟨b, off, none⟩ ∧ b < w.heap.size ∧ w.cell? ⟨b, off + i, none⟩ = some (.string ⟨u.toArray⟩) := by
  rcases h with h | ⟨b, off, h1, h2, h3⟩
  · rw [h] at hi; simp at hi
  · exact ⟨b, off, h1, h2, h3 i u hi⟩

set_option maxRecDepth 100000 in
set_option maxHeartbeats 2000000 in
theorem time11_any (s : ByteArray) (w : World) (hs : s.size ≤ 100000) :
    Calls Tryz.prog 35 #[.string s] w fun x w' => x = .returned (.tuple #[.int .i64 (tiN s.data.toList : Nat), .int .i64 (tiE s.data.toList)]) ∧ Below w.heap.size w w' := by
  have HW := Lib.hid (words_any11 s w hs)
  have HG := Lib.hid (fun w => gap_any s w hs)
  have hsz : s.data.toList.length = s.size := by simp
  obtain ⟨l, hl⟩ : ∃ l, l = s.data.toList := ⟨_, rfl⟩
  rw [← hl] at HW HG hsz ⊢
  have HSZ := Lib.hid hsz
  clear hl hsz
  cases hg : gpL l with
  | false =>
    rw [hg] at HG
    obtain ⟨e1, e2⟩ := ti_no (l := l) (by rw [hg]; simp)
    rw [e1, e2]
    clear e1 e2 hg
    go_enter Tryz.func35, Tryz.ntmps35
    go_wp2_with (first
      | (go_at_call 34; refine HW.out.mono ?_; rintro e w1 ⟨v, rfl, hv, hb⟩; obtain ⟨A, c, rfl, hr, hA⟩ := hv.reads; have B1 := Lib.hid hb; clear hb hv hr hA HW)
      | (go_at_call 36; refine (HG.out _).mono ?_; rintro e w' ⟨rfl, rfl⟩))
    go_ret2
    exact ⟨rfl, B1.out⟩
  | true =>
    rw [hg] at HG
    by_cases h1 : (wdL l).length = 1
    · obtain ⟨e1, e2⟩ := ti_yes hg h1
      rw [e1, e2]
      have hat := wdA_at (l := l) (i := 0) (by omega)
      have HAT := Lib.hid hat
      have HWh := Lib.hid (fun w => whole_word (wdA l 0) 13 w (by have := wdA_len l 0; have := HSZ.out; omega) (by decide))
      have H1 := Lib.hid h1
      generalize wdA l 0 = u at *
      clear e1 e2 hg hat h1
      go_enter Tryz.func35, Tryz.ntmps35
      go_wp2_with (first
        | (go_at_call 34; refine HW.out.mono ?_; rintro e w1 ⟨v, rfl, hv, hb⟩; obtain ⟨A, c, rfl, hr, hA⟩ := hv.reads; rw [H1.out]; obtain ⟨b, off, rfl, -, c0⟩ := hr.at HAT.out; rw [Nat.add_zero] at c0; have B1 := Lib.hid hb; clear hb hv hr hA HW)
        | (go_at_call 36; refine (HG.out _).mono ?_; rintro e w' ⟨rfl, rfl⟩)
        | (go_at_call 58; refine (HWh.out _).mono ?_; rintro e w2 ⟨rfl, hb⟩; have B2 := Lib.hid (B1.out.trans (hb.mono B1.out.size)); clear hb))
      go_ret2
      exact ⟨rfl, B2.out⟩
    · obtain ⟨e1, e2⟩ := ti_no (l := l) (fun c => h1 c.2)
      rw [e1, e2]
      obtain ⟨n9, hn9⟩ : ∃ n9, (wdL l).length = n9 := ⟨_, rfl⟩
      have hz : ¬ (n9 : Int) = 1 := by omega
      have H9 := Lib.hid hn9
      clear e1 e2 hg h1 hn9
      go_enter Tryz.func35, Tryz.ntmps35
      go_wp2_with (first
        | (go_at_call 34; refine HW.out.mono ?_; rintro e w1 ⟨v, rfl, hv, hb⟩; obtain ⟨A, c, rfl, hr, hA⟩ := hv.reads; rw [H9.out]; have B1 := Lib.hid hb; clear hb hv hr hA HW)
        | (go_at_call 36; refine (HG.out _).mono ?_; rintro e w' ⟨rfl, rfl⟩))
      go_ret2
      exact ⟨rfl, B1.out⟩

theorem take_size (s : ByteArray) (k : Nat) : (s.extract 0 k).data.toList = s.data.toList.take k := by
  rw [cut_mid]; simp
set_option maxRecDepth 100000 in
set_option maxHeartbeats 4000000 in
theorem row11_any (s : ByteArray) (w : World) (hs : s.size ≤ 100000) :
    Calls Tryz.prog 38 #[.string s] w fun x w' => x = .returned (.tuple #[.int .i64 (rwA s.data.toList : Nat), .int .i64 (rwO11 s.data.toList : Nat), .int .i64 (rwE s.data.toList)]) ∧ Below w.heap.size w w' := by
  obtain ⟨l, hl⟩ : ∃ l, l = s.data.toList := ⟨_, rfl⟩
  have hsz : l.length = s.size := by rw [hl]; simp
  rw [← hl]
  have HLs := Lib.hid hl
  have HSZ := Lib.hid hsz
  obtain ⟨N, hN⟩ : ∃ N, N = s.size := ⟨_, rfl⟩
  have HN := Lib.hid hN
  clear hl hsz
  have hct : ctL l ≤ s.size := by rw [← HSZ.out]; exact ctS_le l _ (Nat.le_refl _)
  have HW := Lib.hid (words_any11 (s.extract 0 (ctL l)) w (by rw [ByteArray.size_extract]; omega))
  rw [take_size, ← HLs.out, show l.take (ctL l) = rwW l from rfl] at HW
  have HWa := Lib.hid (fun w => whole_word (wdA (rwW l) 0) 13 w (by have := wdA_len (rwW l) 0; have h2 : (rwW l).length ≤ l.length := by { unfold rwW; rw [List.length_take]; omega }; have := HSZ.out; omega) (by decide))
  have HWb := Lib.hid (fun w => whole_word (wdA (rwW l) 1) 4 w (by have := wdA_len (rwW l) 1; have h2 : (rwW l).length ≤ l.length := by { unfold rwW; rw [List.length_take]; omega }; have := HSZ.out; omega) (by decide))
  have HCT := Lib.hid hct
  have zs : (s.size : Int) = (N : Int) := by omega
  clear hct hN
  go_enter Tryz.func38, Tryz.ntmps38
  go_wp2
  go_loopg [5, 6] (N + 1) (fun gg s5 s6 wr => ∃ (k ct : Nat), 1 ≤ k ∧ (k ≤ N ∨ k = 1) ∧ N + 1 - k ≤ gg ∧ s5 = .int .i64 (ct : Int) ∧ s6 = .int .i64 k ∧ ct ≤ N ∧ wr = w ∧ Hid (ct = ctS l k))
  case atStart => exact ⟨1, N, Nat.le_refl _, .inr rfl, by omega, rfl, rfl, Nat.le_refl _, rfl, Lib.hid (by rw [ct_one, HSZ.out, HN.out])⟩
  case round =>
    obtain ⟨k, ct, h1k, hk, hg, rfl, rfl, hct, rfl, HC⟩ := hrel
    obtain ⟨k', rfl⟩ : ∃ k', k = k' + 1 := ⟨k - 1, by omega⟩
    have HKk := Lib.hid hk
    clear hk
    by_cases hlt : k' + 1 < N
    · have hks : k' + 1 < s.size := by have := HN.out; omega
      have hks' : k' < s.size := by omega
      have hltz : (k' : Int) + 1 < (s.size : Int) := by omega
      have hkz : (0 : Int) ≤ (k' : Int) := by omega
      have hlez : (k' : Int) + 1 ≤ (s.size : Int) := by omega
      have e1 : ((k' : Int) + 1).toNat = k' + 1 := by omega
      by_cases hc : ct = N
      · obtain rfl : N = ct := hc.symm
        have hb := byte_at hks
        have hb' := byte_at hks'
        rw [← HLs.out] at hb hb'
        have HCl : Hid (ctS l (k' + 1) = l.length) := Lib.hid (by rw [← HC.out, HSZ.out, HN.out])
        have HK := Lib.hid hlt
        have HG := Lib.hid (fun w => gap_any (s.extract k' (k' + 1)) w (by rw [ByteArray.size_extract]; omega))
        have hg1 : gpL (s.extract k' (k' + 1)).data.toList = gp s[k'] := by
          rw [cut_mid, ← HLs.out, List.drop_eq_getElem_cons (by rw [HSZ.out]; omega), show k' + 1 - k' = 1 by omega]
          have := (List.getElem?_eq_some_iff.1 hb').2
          simp [gpL, this]
        rw [hg1] at HG
        have i0 : IntKind.i64.wrap ((k' : Int) + 1 - 1) = (k' : Int) := by rw [show (k' : Int) + 1 - 1 = k' by omega]; exact IntWalk.i64_in _ (by omega)
        by_cases h35 : s[k' + 1] = 35
        · have t1 : ((s[k' + 1].toNat : Int) == 35) = true := by rw [h35]; rfl
          rw [h35] at hb
          cases hg : gp s[k'] with
          | true =>
            rw [hg] at HG
            have E : Hid (ctS l (k' + 1 + 1) = k' + 1) := Lib.hid (ctr_yes HCl.out (by omega) hb (by rw [show k' + 1 - 1 = k' by omega]; exact hb') hg)
            clear hb hb' hg hg1 h35
            go_wp2_with (go_at_call 36; refine (HG.out _).mono ?_; rintro e w' ⟨rfl, rfl⟩)
            go_roundg (N - (k' + 1))
            case measure => omega
            case rel => exact ⟨k' + 1 + 1, k' + 1, by omega, .inl (by omega), by omega, rfl, by go_num, by omega, rfl, Lib.hid (by rw [E.out])⟩
          | false =>
            rw [hg] at HG
            have E : Hid (ctS l (k' + 1 + 1) = l.length) := Lib.hid (ctr_no HCl.out (fun c => by
              have := c.2
              rw [show k' + 1 - 1 = k' by omega, hb'] at this
              simp [hg] at this))
            clear hb hb' hg hg1 h35
            go_wp2_with (go_at_call 36; refine (HG.out _).mono ?_; rintro e w' ⟨rfl, rfl⟩)
            go_roundg (N - (k' + 1))
            case measure => omega
            case rel => exact ⟨k' + 1 + 1, N, by omega, .inl (by omega), by omega, rfl, by go_num, by omega, rfl, Lib.hid (by rw [E.out]; rw [HSZ.out, HN.out])⟩
        · have t1 : ((s[k' + 1].toNat : Int) == 35) = false := by
            have : s[k' + 1].toNat ≠ 35 := fun e => h35 (UInt8.toNat_inj.1 (by rw [e]; rfl))
            simp; omega
          have E : Hid (ctS l (k' + 1 + 1) = l.length) := Lib.hid (ctr_no HCl.out (fun c => by
            have := c.1
            rw [hb] at this
            injection this with this
            exact h35 this))
          clear hb hb' hg1 h35
          go_wp2_with (go_at_call 36; refine (HG.out _).mono ?_; rintro e w' ⟨rfl, rfl⟩)
          go_roundg (N - (k' + 1))
          case measure => omega
          case rel => exact ⟨k' + 1 + 1, N, by omega, .inl (by omega), by omega, rfl, by go_num, by omega, rfl, Lib.hid (by rw [E.out]; rw [HSZ.out, HN.out])⟩
      · have hz : ¬ (ct : Int) = (s.size : Int) := by omega
        have hcl : ct < N := by omega
        obtain rfl : ct = ctL l := by rw [ct_found (by rw [← HC.out, HSZ.out, ← HN.out]; exact hcl) (by rw [HSZ.out]; omega)]; exact HC.out
        clear hc hcl
        clear HC
        obtain ⟨m, hm⟩ : ∃ m, (wdL (rwW l)).length = m := ⟨_, rfl⟩
        have HMl := Lib.hid hm
        have hcs : ((ctL l : Nat) : Int) ≤ (s.size : Int) := by have := HCT.out; omega
        by_cases h2 : m = 2
        rotate_left
        · have hz : ¬ (m : Int) = 2 := by omega
          have Z := Lib.hid (rw_two (l := l) (by omega))
          clear hm h2
          go_wp2_with (go_at_call 34; refine HW.out.mono ?_; rintro e w1 ⟨v, rfl, hv, hb⟩; obtain ⟨A, c, rfl, hr, hA⟩ := hv.reads; rw [HMl.out]; have B1 := Lib.hid hb; clear hb hv hr hA HW)
          (try simp only [Exit.inBlock, Exit.then])
          refine bodyPost_ret (results_three rfl _ _ _) rfl ?_
          exact ⟨ret3_eq (int_eq (by rw [Z.out.2.1]; rfl)) (int_eq (by rw [Z.out.2.2]; rfl)) (int_eq Z.out.1.symm), B1.out⟩
        subst h2
        have hat0 := wdA_at (l := rwW l) (i := 0) (by omega)
        have hat1 := wdA_at (l := rwW l) (i := 1) (by omega)
        have HT0 := Lib.hid hat0; have HT1 := Lib.hid hat1
        have R1 := Lib.hid (fun h => rw_form (l := l) hm h)
        have R2 := Lib.hid (fun h1 h2 h3 => rw_range (l := l) hm h1 h2 h3)
        have R3 := Lib.hid (fun h1 h2 h3 => rw_good (l := l) hm h1 h2 h3)
        generalize wdA (rwW l) 0 = u0 at *
        generalize wdA (rwW l) 1 = u1 at *
        clear hat0 hat1 hm
        generalize whE u0 1 13 mx = p0 at *
        generalize whE u1 1 4 mx = p1 at *
        generalize whN u0 1 13 mx = m0 at *
        generalize whN u1 1 4 mx = m1 at *
        by_cases h0 : p0 = 0
        rotate_left
        · have Z := Lib.hid (R1.out (.inl h0))
          go_wp2_with (first
            | (go_at_call 34; refine HW.out.mono ?_; rintro e w1 ⟨v, rfl, hv, hb⟩; obtain ⟨A, c, rfl, hr, hA⟩ := hv.reads; rw [HMl.out]; have B1 := Lib.hid hb; obtain ⟨b, off, rfl, hlt9, c0⟩ := hr.at HT0.out; obtain ⟨b', off', hbb, -, c1⟩ := hr.at HT1.out; injection hbb with hbb; injection hbb with hb1 hb2; subst hb1; subst hb2; rw [Nat.add_zero] at c0; have C1 : Hid (∀ W, Below w1.heap.size w1 W → W.cell? ⟨b, off + 1, none⟩ = some (.string ⟨u1.toArray⟩)) := Lib.hid fun W h => (h.cell (p := ⟨b, off + 1, none⟩) hlt9).trans c1; clear hb hv hr hA HW c1)
            | (go_at_call 58; refine (HWa.out _).mono ?_; rintro e w2 ⟨rfl, hb⟩; have c1 := C1.out w2 hb; have B2 := Lib.hid (B1.out.trans (hb.mono B1.out.size)); clear hb HWa C1)
            | (go_at_call 58; refine (HWb.out _).mono ?_; rintro e w3 ⟨rfl, hb⟩; have B3 := Lib.hid (B2.out.trans (hb.mono B2.out.size)); clear hb HWb))
          (try simp only [Exit.inBlock, Exit.then])
          refine bodyPost_ret (results_three rfl _ _ _) rfl ?_
          exact ⟨ret3_eq (int_eq (by rw [Z.out.2.1]; rfl)) (int_eq (by rw [Z.out.2.2]; rfl)) (int_eq Z.out.1.symm), B3.out⟩
        by_cases h1 : p1 = 0
        rotate_left
        · have Z := Lib.hid (R1.out (.inr h1))
          go_wp2_with (first
            | (go_at_call 34; refine HW.out.mono ?_; rintro e w1 ⟨v, rfl, hv, hb⟩; obtain ⟨A, c, rfl, hr, hA⟩ := hv.reads; rw [HMl.out]; have B1 := Lib.hid hb; obtain ⟨b, off, rfl, hlt9, c0⟩ := hr.at HT0.out; obtain ⟨b', off', hbb, -, c1⟩ := hr.at HT1.out; injection hbb with hbb; injection hbb with hb1 hb2; subst hb1; subst hb2; rw [Nat.add_zero] at c0; have C1 : Hid (∀ W, Below w1.heap.size w1 W → W.cell? ⟨b, off + 1, none⟩ = some (.string ⟨u1.toArray⟩)) := Lib.hid fun W h => (h.cell (p := ⟨b, off + 1, none⟩) hlt9).trans c1; clear hb hv hr hA HW c1)
            | (go_at_call 58; refine (HWa.out _).mono ?_; rintro e w2 ⟨rfl, hb⟩; have c1 := C1.out w2 hb; have B2 := Lib.hid (B1.out.trans (hb.mono B1.out.size)); clear hb HWa C1)
            | (go_at_call 58; refine (HWb.out _).mono ?_; rintro e w3 ⟨rfl, hb⟩; have B3 := Lib.hid (B2.out.trans (hb.mono B2.out.size)); clear hb HWb))
          (try simp only [Exit.inBlock, Exit.then])
          refine bodyPost_ret (results_three rfl _ _ _) rfl ?_
          exact ⟨ret3_eq (int_eq (by rw [Z.out.2.1]; rfl)) (int_eq (by rw [Z.out.2.2]; rfl)) (int_eq Z.out.1.symm), B3.out⟩
        by_cases h3 : m0 % 86400 = 0
        · have Z := Lib.hid (R3.out h0 h1 h3)
          have t1 : (((m0 : Nat) : Int).tmod 86400 != 0) = false := by rw [Int.tmod_eq_emod_of_nonneg (by omega)]; simp; omega
          have t2 : (((m0 : Nat) : Int) % 86400 != 0) = false := by simp; omega
          clear h3
          go_wp2_with (first
            | (go_at_call 34; refine HW.out.mono ?_; rintro e w1 ⟨v, rfl, hv, hb⟩; obtain ⟨A, c, rfl, hr, hA⟩ := hv.reads; rw [HMl.out]; have B1 := Lib.hid hb; obtain ⟨b, off, rfl, hlt9, c0⟩ := hr.at HT0.out; obtain ⟨b', off', hbb, -, c1⟩ := hr.at HT1.out; injection hbb with hbb; injection hbb with hb1 hb2; subst hb1; subst hb2; rw [Nat.add_zero] at c0; have C1 : Hid (∀ W, Below w1.heap.size w1 W → W.cell? ⟨b, off + 1, none⟩ = some (.string ⟨u1.toArray⟩)) := Lib.hid fun W h => (h.cell (p := ⟨b, off + 1, none⟩) hlt9).trans c1; clear hb hv hr hA HW c1)
            | (go_at_call 58; refine (HWa.out _).mono ?_; rintro e w2 ⟨rfl, hb⟩; have c1 := C1.out w2 hb; have B2 := Lib.hid (B1.out.trans (hb.mono B1.out.size)); clear hb HWa C1)
            | (go_at_call 58; refine (HWb.out _).mono ?_; rintro e w3 ⟨rfl, hb⟩; have B3 := Lib.hid (B2.out.trans (hb.mono B2.out.size)); clear hb HWb))
          (try simp only [Exit.inBlock, Exit.then])
          refine bodyPost_ret (results_three rfl _ _ _) rfl ?_
          exact ⟨ret3_eq (int_eq (by rw [Z.out.2.1])) (int_eq (by rw [Z.out.2.2])) (int_eq Z.out.1.symm), B3.out⟩
        · have Z := Lib.hid (R2.out h0 h1 h3)
          have t1 : (((m0 : Nat) : Int).tmod 86400 != 0) = true := by rw [Int.tmod_eq_emod_of_nonneg (by omega)]; simp; omega
          have t2 : (((m0 : Nat) : Int) % 86400 != 0) = true := by simp; omega
          clear h3
          go_wp2_with (first
            | (go_at_call 34; refine HW.out.mono ?_; rintro e w1 ⟨v, rfl, hv, hb⟩; obtain ⟨A, c, rfl, hr, hA⟩ := hv.reads; rw [HMl.out]; have B1 := Lib.hid hb; obtain ⟨b, off, rfl, hlt9, c0⟩ := hr.at HT0.out; obtain ⟨b', off', hbb, -, c1⟩ := hr.at HT1.out; injection hbb with hbb; injection hbb with hb1 hb2; subst hb1; subst hb2; rw [Nat.add_zero] at c0; have C1 : Hid (∀ W, Below w1.heap.size w1 W → W.cell? ⟨b, off + 1, none⟩ = some (.string ⟨u1.toArray⟩)) := Lib.hid fun W h => (h.cell (p := ⟨b, off + 1, none⟩) hlt9).trans c1; clear hb hv hr hA HW c1)
            | (go_at_call 58; refine (HWa.out _).mono ?_; rintro e w2 ⟨rfl, hb⟩; have c1 := C1.out w2 hb; have B2 := Lib.hid (B1.out.trans (hb.mono B1.out.size)); clear hb HWa C1)
            | (go_at_call 58; refine (HWb.out _).mono ?_; rintro e w3 ⟨rfl, hb⟩; have B3 := Lib.hid (B2.out.trans (hb.mono B2.out.size)); clear hb HWb))
          (try simp only [Exit.inBlock, Exit.then])
          refine bodyPost_ret (results_three rfl _ _ _) rfl ?_
          exact ⟨ret3_eq (int_eq (by rw [Z.out.2.1]; rfl)) (int_eq (by rw [Z.out.2.2]; rfl)) (int_eq Z.out.1.symm), B3.out⟩
    · have hltz : ¬ (k' : Int) + 1 < (s.size : Int) := by omega
      obtain rfl : ct = ctL l := by
        rcases (by have := HKk.out; omega : N = k' + 1 ∨ (N = 0 ∧ k' = 0)) with hk | ⟨h0, h1⟩
        · rw [HC.out, ← hk, HN.out, ← HSZ.out]; rfl
        · have h2 : l.length = 0 := by rw [HSZ.out, ← HN.out]; exact h0
          have e : ctL l = l.length := by unfold ctL; rw [h2]; unfold ctS; exact h2
          rw [e, HC.out, h1]; exact ct_one l
      clear HC
      obtain ⟨m, hm⟩ : ∃ m, (wdL (rwW l)).length = m := ⟨_, rfl⟩
      have HMl := Lib.hid hm
      have hcs : ((ctL l : Nat) : Int) ≤ (s.size : Int) := by have := HCT.out; omega
      by_cases h2 : m = 2
      rotate_left
      · have hz : ¬ (m : Int) = 2 := by omega
        have Z := Lib.hid (rw_two (l := l) (by omega))
        clear hm h2
        go_wp2_with (go_at_call 34; refine HW.out.mono ?_; rintro e w1 ⟨v, rfl, hv, hb⟩; obtain ⟨A, c, rfl, hr, hA⟩ := hv.reads; rw [HMl.out]; have B1 := Lib.hid hb; clear hb hv hr hA HW)
        (try simp only [Exit.inBlock, Exit.then])
        refine bodyPost_ret (results_three rfl _ _ _) rfl ?_
        exact ⟨ret3_eq (int_eq (by rw [Z.out.2.1]; rfl)) (int_eq (by rw [Z.out.2.2]; rfl)) (int_eq Z.out.1.symm), B1.out⟩
      subst h2
      have hat0 := wdA_at (l := rwW l) (i := 0) (by omega)
      have hat1 := wdA_at (l := rwW l) (i := 1) (by omega)
      have HT0 := Lib.hid hat0; have HT1 := Lib.hid hat1
      have R1 := Lib.hid (fun h => rw_form (l := l) hm h)
      have R2 := Lib.hid (fun h1 h2 h3 => rw_range (l := l) hm h1 h2 h3)
      have R3 := Lib.hid (fun h1 h2 h3 => rw_good (l := l) hm h1 h2 h3)
      generalize wdA (rwW l) 0 = u0 at *
      generalize wdA (rwW l) 1 = u1 at *
      clear hat0 hat1 hm
      generalize whE u0 1 13 mx = p0 at *
      generalize whE u1 1 4 mx = p1 at *
      generalize whN u0 1 13 mx = m0 at *
      generalize whN u1 1 4 mx = m1 at *
      by_cases h0 : p0 = 0
      rotate_left
      · have Z := Lib.hid (R1.out (.inl h0))
        go_wp2_with (first
          | (go_at_call 34; refine HW.out.mono ?_; rintro e w1 ⟨v, rfl, hv, hb⟩; obtain ⟨A, c, rfl, hr, hA⟩ := hv.reads; rw [HMl.out]; have B1 := Lib.hid hb; obtain ⟨b, off, rfl, hlt9, c0⟩ := hr.at HT0.out; obtain ⟨b', off', hbb, -, c1⟩ := hr.at HT1.out; injection hbb with hbb; injection hbb with hb1 hb2; subst hb1; subst hb2; rw [Nat.add_zero] at c0; have C1 : Hid (∀ W, Below w1.heap.size w1 W → W.cell? ⟨b, off + 1, none⟩ = some (.string ⟨u1.toArray⟩)) := Lib.hid fun W h => (h.cell (p := ⟨b, off + 1, none⟩) hlt9).trans c1; clear hb hv hr hA HW c1)
          | (go_at_call 58; refine (HWa.out _).mono ?_; rintro e w2 ⟨rfl, hb⟩; have c1 := C1.out w2 hb; have B2 := Lib.hid (B1.out.trans (hb.mono B1.out.size)); clear hb HWa C1)
          | (go_at_call 58; refine (HWb.out _).mono ?_; rintro e w3 ⟨rfl, hb⟩; have B3 := Lib.hid (B2.out.trans (hb.mono B2.out.size)); clear hb HWb))
        (try simp only [Exit.inBlock, Exit.then])
        refine bodyPost_ret (results_three rfl _ _ _) rfl ?_
        exact ⟨ret3_eq (int_eq (by rw [Z.out.2.1]; rfl)) (int_eq (by rw [Z.out.2.2]; rfl)) (int_eq Z.out.1.symm), B3.out⟩
      by_cases h1 : p1 = 0
      rotate_left
      · have Z := Lib.hid (R1.out (.inr h1))
        go_wp2_with (first
          | (go_at_call 34; refine HW.out.mono ?_; rintro e w1 ⟨v, rfl, hv, hb⟩; obtain ⟨A, c, rfl, hr, hA⟩ := hv.reads; rw [HMl.out]; have B1 := Lib.hid hb; obtain ⟨b, off, rfl, hlt9, c0⟩ := hr.at HT0.out; obtain ⟨b', off', hbb, -, c1⟩ := hr.at HT1.out; injection hbb with hbb; injection hbb with hb1 hb2; subst hb1; subst hb2; rw [Nat.add_zero] at c0; have C1 : Hid (∀ W, Below w1.heap.size w1 W → W.cell? ⟨b, off + 1, none⟩ = some (.string ⟨u1.toArray⟩)) := Lib.hid fun W h => (h.cell (p := ⟨b, off + 1, none⟩) hlt9).trans c1; clear hb hv hr hA HW c1)
          | (go_at_call 58; refine (HWa.out _).mono ?_; rintro e w2 ⟨rfl, hb⟩; have c1 := C1.out w2 hb; have B2 := Lib.hid (B1.out.trans (hb.mono B1.out.size)); clear hb HWa C1)
          | (go_at_call 58; refine (HWb.out _).mono ?_; rintro e w3 ⟨rfl, hb⟩; have B3 := Lib.hid (B2.out.trans (hb.mono B2.out.size)); clear hb HWb))
        (try simp only [Exit.inBlock, Exit.then])
        refine bodyPost_ret (results_three rfl _ _ _) rfl ?_
        exact ⟨ret3_eq (int_eq (by rw [Z.out.2.1]; rfl)) (int_eq (by rw [Z.out.2.2]; rfl)) (int_eq Z.out.1.symm), B3.out⟩
      by_cases h3 : m0 % 86400 = 0
      · have Z := Lib.hid (R3.out h0 h1 h3)
        have t1 : (((m0 : Nat) : Int).tmod 86400 != 0) = false := by rw [Int.tmod_eq_emod_of_nonneg (by omega)]; simp; omega
        have t2 : (((m0 : Nat) : Int) % 86400 != 0) = false := by simp; omega
        clear h3
        go_wp2_with (first
          | (go_at_call 34; refine HW.out.mono ?_; rintro e w1 ⟨v, rfl, hv, hb⟩; obtain ⟨A, c, rfl, hr, hA⟩ := hv.reads; rw [HMl.out]; have B1 := Lib.hid hb; obtain ⟨b, off, rfl, hlt9, c0⟩ := hr.at HT0.out; obtain ⟨b', off', hbb, -, c1⟩ := hr.at HT1.out; injection hbb with hbb; injection hbb with hb1 hb2; subst hb1; subst hb2; rw [Nat.add_zero] at c0; have C1 : Hid (∀ W, Below w1.heap.size w1 W → W.cell? ⟨b, off + 1, none⟩ = some (.string ⟨u1.toArray⟩)) := Lib.hid fun W h => (h.cell (p := ⟨b, off + 1, none⟩) hlt9).trans c1; clear hb hv hr hA HW c1)
          | (go_at_call 58; refine (HWa.out _).mono ?_; rintro e w2 ⟨rfl, hb⟩; have c1 := C1.out w2 hb; have B2 := Lib.hid (B1.out.trans (hb.mono B1.out.size)); clear hb HWa C1)
          | (go_at_call 58; refine (HWb.out _).mono ?_; rintro e w3 ⟨rfl, hb⟩; have B3 := Lib.hid (B2.out.trans (hb.mono B2.out.size)); clear hb HWb))
        (try simp only [Exit.inBlock, Exit.then])
        refine bodyPost_ret (results_three rfl _ _ _) rfl ?_
        exact ⟨ret3_eq (int_eq (by rw [Z.out.2.1])) (int_eq (by rw [Z.out.2.2])) (int_eq Z.out.1.symm), B3.out⟩
      · have Z := Lib.hid (R2.out h0 h1 h3)
        have t1 : (((m0 : Nat) : Int).tmod 86400 != 0) = true := by rw [Int.tmod_eq_emod_of_nonneg (by omega)]; simp; omega
        have t2 : (((m0 : Nat) : Int) % 86400 != 0) = true := by simp; omega
        clear h3
        go_wp2_with (first
          | (go_at_call 34; refine HW.out.mono ?_; rintro e w1 ⟨v, rfl, hv, hb⟩; obtain ⟨A, c, rfl, hr, hA⟩ := hv.reads; rw [HMl.out]; have B1 := Lib.hid hb; obtain ⟨b, off, rfl, hlt9, c0⟩ := hr.at HT0.out; obtain ⟨b', off', hbb, -, c1⟩ := hr.at HT1.out; injection hbb with hbb; injection hbb with hb1 hb2; subst hb1; subst hb2; rw [Nat.add_zero] at c0; have C1 : Hid (∀ W, Below w1.heap.size w1 W → W.cell? ⟨b, off + 1, none⟩ = some (.string ⟨u1.toArray⟩)) := Lib.hid fun W h => (h.cell (p := ⟨b, off + 1, none⟩) hlt9).trans c1; clear hb hv hr hA HW c1)
          | (go_at_call 58; refine (HWa.out _).mono ?_; rintro e w2 ⟨rfl, hb⟩; have c1 := C1.out w2 hb; have B2 := Lib.hid (B1.out.trans (hb.mono B1.out.size)); clear hb HWa C1)
          | (go_at_call 58; refine (HWb.out _).mono ?_; rintro e w3 ⟨rfl, hb⟩; have B3 := Lib.hid (B2.out.trans (hb.mono B2.out.size)); clear hb HWb))
        (try simp only [Exit.inBlock, Exit.then])
        refine bodyPost_ret (results_three rfl _ _ _) rfl ?_
        exact ⟨ret3_eq (int_eq (by rw [Z.out.2.1]; rfl)) (int_eq (by rw [Z.out.2.2]; rfl)) (int_eq Z.out.1.symm), B3.out⟩

end Go.Proofs.YtdonicaiimeleaaGreatDoor
