/- Where a text is parted changes nothing: the walk. -/
import Derived.Test.YtijopeacgpmicaaDoorShaB
import Derived.Test.YtijopeacgpmicaaDoorShaC
namespace Go.Proofs.YtijopeacgpmicaaDoor
open Go.RowKit Go.WideShapes Go.ChangeShapes
set_option linter.unusedVariables false

/-- Parts that read in w. -/
def Pr (w : World) (ps : List Pt) : Prop := ∀ (j : Nat) (A : Option Addr) (l : List UInt8) (c : Nat), ps[j]? = some (A, l, c) → Rb w A l ∧ (A = none → c = 0) ∧ l.length ≤ c
theorem Pr.snoc {w : World} {ps : List Pt} {A : Option Addr} {l : List UInt8} {c : Nat} (h : Pr w ps) (h1 : Rb w A l) (h2 : A = none → c = 0) (h3 : l.length ≤ c) : Pr w (ps ++ [(A, l, c)]) := fun j A' l' c' hj => by
  by_cases e : j < ps.length
  · rw [List.getElem?_append_left e] at hj
    exact h j A' l' c' hj
  · rw [List.getElem?_append_right (by omega)] at hj
    have hlt := (List.getElem?_eq_some_iff.1 hj).1
    simp at hlt
    rw [show j - ps.length = 0 by omega] at hj
    have hj : (A, l, c) = (A', l', c') := by simpa using hj
    injection hj with e1 e2
    injection e2 with e2 e3
    subst e1; subst e2; subst e3
    exact ⟨h1, h2, h3⟩
theorem Pr.ps {w W : World} {ps : List Pt} {b : Nat} (h : Pr w ps) (hb : Below w.heap.size w W) (hc : ∀ i u, (ps.map tv)[i]? = some u → W.cell? ⟨b, i, none⟩ = some u) : Ps (fun _ => False) W (some ⟨b, 0, none⟩) ps := fun j A l c hj => by
  obtain ⟨h1, h2, h3⟩ := h j A l c hj
  refine ⟨⟨b, 0, rfl, fun h => h, ?_⟩, h1.below hb, h2, h3, .inr fun _ _ h => h⟩
  rw [Nat.zero_add]
  exact hc j _ (by rw [List.getElem?_map, hj]; rfl)
theorem cat_snoc (ps : List Pt) (A : Option Addr) (m : List UInt8) (c : Nat) : cat (ps ++ [(A, m, c)]) = cat ps ++ m := by simp [cat]

theorem own0 (w : World) : Ov (w.alloc (.cells #[] 22)) w.heap.size (.slice (some ⟨w.heap.size, 0, none⟩) 0 0) [] :=
  ⟨rfl, .inr ⟨w.heap.size, 0, #[], rfl, Nat.le_refl _, heap_alloc_new w _, Nat.le_refl _, Nat.zero_le _, rfl, rfl⟩⟩
theorem Ov.below {w w' : World} {base B : Nat} {v : Value} {vs : List Value} (h : Ov w base v vs) (hb : Below B w w') (hB : w.heap.size ≤ B) : Ov w' base v vs := by
  refine ⟨h.1, ?_⟩
  rcases h.2 with h0 | ⟨g, cap, cur, h1, h2, h3, h4⟩
  · exact .inl h0
  · exact .inr ⟨g, cap, cur, h1, h2, (hb.block g (Nat.lt_of_lt_of_le (bk_lt h3) hB)).trans h3, h4⟩
/-- One slice in a block of its own. -/
theorem one_val (w : World) (v : Value) : Rv (w.alloc (.cells #[v] 22)) (some ⟨w.heap.size, 0, none⟩) [v] := .inr ⟨w.heap.size, 0, rfl, by simp, fun i u hi => by
  cases i with
  | zero =>
    obtain rfl : v = u := by simpa using hi
    exact bk_cell (heap_alloc_new w _) 0
  | succ i => simp at hi⟩

set_option maxRecDepth 100000 in
set_option maxHeartbeats 1000000 in
theorem parts_walk (A : Option Addr) (l : List UInt8) (c : Nat) (Aq : Option Addr) (qs : List Int) (cq : Nat) (w : World) (hst : Start w) (h : Rb w A l) (hA : A = none → c = 0) (hc : l.length ≤ c) (hq : Rz .i64 w Aq qs) :
    Calls Tryd.prog 5 #[.slice A l.length c, .slice Aq qs.length cq] w fun e w' => e = .returned (.bool true) ∧ Below w.heap.size w w' := by
  have HA1 := Lib.hid (alive9_any w hst)
  by_cases h1 : 1000 < l.length
  · have h1' : (1000 : Int) < (l.length : Int) := by omega
    clear h hA hc hq hst
    go_enter Tryd.func5, Tryd.ntmps5
    go_wp2_with (go_at_call 6; refine HA1.out.mono ?_; rintro e w1 ⟨rfl, hb⟩; have HB1 := Lib.hid hb; clear hb)
    go_ret
    exact ⟨rfl, HB1.out⟩
  · by_cases h2 : 20 < qs.length
    · have h1' : ¬ (1000 : Int) < (l.length : Int) := by omega
      have h2' : (20 : Int) < (qs.length : Int) := by omega
      clear h hA hc hq hst
      go_enter Tryd.func5, Tryd.ntmps5
      go_wp2_with (go_at_call 6; refine HA1.out.mono ?_; rintro e w1 ⟨rfl, hb⟩; have HB1 := Lib.hid hb; clear hb)
      go_ret
      exact ⟨rfl, HB1.out⟩
    · have h1' : ¬ (1000 : Int) < (l.length : Int) := by omega
      have h2' : ¬ (20 : Int) < (qs.length : Int) := by omega
      have H := Lib.hid h; have HA := Lib.hid hA; have HC := Lib.hid hc; have HQ := Lib.hid hq; have HST := Lib.hid hst
      have H1 := Lib.hid h1; have H2 := Lib.hid h2
      clear h hA hc hq hst h1 h2
      go_enter Tryd.func5, Tryd.ntmps5
      go_wp2_with (go_at_call 6; refine HA1.out.mono ?_; rintro e w1 ⟨rfl, hb⟩; have HB1 := Lib.hid hb; clear hb)
      have OV := Lib.hid (own0 w1)
      have B2 := Lib.hid (HB1.out.alloc HB1.out.size (.cells #[] 22))
      have hW2 : w1.heap.size ≤ (w1.alloc (.cells #[] 22)).heap.size := by simp
      have HW2 := Lib.hid hW2
      clear hW2
      generalize w1.alloc (.cells #[] 22) = w2 at *
      go_loopw [5, 6, 22] (fun v f i wr => ∃ (j f' : Nat) (ps : List Pt), i = .int .i64 j ∧ f = .int .i64 f' ∧ j ≤ qs.length ∧ f' ≤ l.length ∧ Hid (ps.length ≤ j) ∧ Hid (Ov wr w1.heap.size v (ps.map tv)) ∧ Hid (Pr w ps) ∧ Hid (cat ps = l.take f') ∧ Hid (Below w.heap.size w wr) ∧ Hid (w1.heap.size ≤ wr.heap.size)) (fun _ _ i _ => qs.length - (intOf i).toNat)
      case atStart => exact ⟨0, 0, [], rfl, rfl, Nat.zero_le _, Nat.zero_le _, Lib.hid (Nat.le_refl _), OV, Lib.hid (fun j A l c hj => by simp at hj), Lib.hid rfl, B2, HW2⟩
      case round =>
        clear OV B2 HW2
        obtain ⟨j, f', ps, rfl, rfl, hj, hf, HPL, OV, HPR, HCT, B, HSZ⟩ := hrel
        by_cases hlt : j < qs.length
        · obtain ⟨b, off, rfl, _, hcell⟩ := (HQ.out.below B.out).cell hlt
          have hwf := HQ.out.1 qs[j] (List.getElem_mem hlt)
          obtain ⟨p, hp⟩ : ∃ p, p = qs[j] := ⟨_, rfl⟩
          rw [← hp] at hcell hwf
          clear hp
          by_cases g1 : (f' : Int) ≤ p
          · by_cases g2 : p ≤ (l.length : Int)
            · obtain ⟨n, rfl⟩ := Int.eq_ofNat_of_zero_le (a := p) (by omega)
              obtain ⟨A3, c3, m, hm, hsl, hrd, hnil, hle, -, -⟩ := part_lh H.out HA.out HC.out (lo := f') (hi := n) (by omega) (by omega)
              have HM := Lib.hid (show cat (ps ++ [(A3, m, c3)]) = l.take n by
                rw [cat_snoc, HCT.out, hm]
                rw [← List.take_add]
                congr 1
                omega)
              have HP2 := Lib.hid (HPR.out.snoc hrd hnil hle)
              clear hm hrd hnil hle hwf
              go_wp2_with (refine app_vals (.tmp 35) (.tmp 40) w1.heap.size _ (ps.map tv) (OV.out.below ((Below.refl _ wr).alloc (Nat.le_refl _) _) (Nat.le_refl _)) (some ⟨wr.heap.size, 0, none⟩) [.slice A3 m.length c3] 1 1 rfl (one_val wr _) (fun h => by cases h) (fun u hu => by rw [List.mem_singleton.mp hu]; rfl) (fun h => by cases h) (by rw [List.length_map]; have := HPL.out; have := H2.out; omega) (by simp) (by rw [World.size_alloc]; exact Nat.le_succ_of_le HSZ.out) rfl rfl rfl rfl ?_
                           intro v3 w3 hv3 hb3
                           have V3 := Lib.hid (show Ov w3 w1.heap.size v3 ((ps ++ [(A3, m, c3)]).map tv) by rw [List.map_append]; exact hv3)
                           have B3 := Lib.hid ((B.out.alloc B.out.size (.cells #[.slice A3 m.length c3] 22)).trans (hb3.mono HB1.out.size))
                           have S3 := Lib.hid (show w1.heap.size ≤ w3.heap.size from Nat.le_trans (Nat.le_trans HSZ.out (by rw [World.size_alloc]; exact Nat.le_succ _)) hb3.size)
                           clear hv3 hb3)
              exact ⟨⟨j + 1, n, ps ++ [(A3, m, c3)], by go_num, rfl, by omega, by omega, Lib.hid (by rw [List.length_append]; have := HPL.out; simp; omega), V3, HP2, HM, B3, S3⟩, by simp [intOf]; omega⟩
            · go_wp2
              exact ⟨⟨j + 1, f', ps, by go_num, rfl, by omega, hf, Lib.hid (Nat.le_succ_of_le HPL.out), OV, HPR, HCT, B, HSZ⟩, by simp [intOf]; omega⟩
          · go_wp2
            exact ⟨⟨j + 1, f', ps, by go_num, rfl, by omega, hf, Lib.hid (Nat.le_succ_of_le HPL.out), OV, HPR, HCT, B, HSZ⟩, by simp [intOf]; omega⟩
        · obtain rfl : j = qs.length := by omega
          obtain ⟨A3, c3, hsl, hrd, hnil, hle, -⟩ := rest_of (own := fun _ => False) H.out (.inr fun _ _ h => h) HA.out HC.out hf
          have hcat : cat (ps ++ [(A3, l.drop f', c3)]) = l := by rw [cat_snoc, HCT.out, List.take_append_drop]
          have HP2 := Lib.hid (HPR.out.snoc hrd hnil hle)
          obtain ⟨m, hm⟩ : ∃ m, m = l.drop f' := ⟨_, rfl⟩
          rw [← hm] at hsl hcat HP2
          have HCAT := Lib.hid hcat
          have HN := Lib.hid (show (ps ++ [(A3, m, c3)]).length ≤ 21 by rw [List.length_append]; have := HPL.out; have := H2.out; simp; omega)
          have hed := fun w => eq_dig (byt (dig l)) (byt_len _) w
          obtain ⟨V, hV⟩ : ∃ V, V = byt (dig l) := ⟨_, rfl⟩
          have HV := Lib.hid hV
          rw [← hV] at hed
          obtain ⟨N9, hN9⟩ : ∃ N9, N9 = (ps ++ [(A3, m, c3)]).length := ⟨_, rfl⟩
          have HN9 := Lib.hid hN9
          clear hrd hnil hle hm hcat hV hlt hj hN9
          go_wp2_with (first
            | (refine app_vals (.tmp 44) (.tmp 48) w1.heap.size _ (ps.map tv) (OV.out.below ((Below.refl _ wr).alloc (Nat.le_refl _) _) (Nat.le_refl _)) (some ⟨wr.heap.size, 0, none⟩) [.slice A3 m.length c3] 1 1 rfl (one_val wr _) (fun h => by cases h) (fun u hu => by rw [List.mem_singleton.mp hu]; rfl) (fun h => by cases h) (by rw [List.length_map]; have := HPL.out; have := H2.out; omega) (by simp) (by rw [World.size_alloc]; exact Nat.le_succ_of_le HSZ.out) rfl rfl rfl rfl ?_
               intro v3 w3 hv3 hb3
               have hv4 : Ov w3 w1.heap.size v3 ((ps ++ [(A3, m, c3)]).map tv) := (by rw [List.map_append]; exact hv3)
               obtain ⟨b, c', rfl, -, hcell⟩ := hv4.open_ (by simp)
               rw [List.length_map, ← HN9.out]
               have B3 := Lib.hid ((B.out.alloc B.out.size (.cells #[.slice A3 m.length c3] 22)).trans (hb3.mono HB1.out.size))
               have HPS := Lib.hid (HP2.out.ps B3.out hcell)
               have hof := of_any (some ⟨b, 0, none⟩) c' (ps ++ [(A3, m, c3)]) w3 (HST.out.below B3.out) HPS.out (fun h => by cases h) (by have := HN.out; omega) (by rw [HCAT.out]; have := H1.out; omega)
               rw [← HN9.out, show digP (ps ++ [(A3, m, c3)]) = V by rw [HV.out]; unfold digP; rw [HCAT.out]] at hof
               have HOF := Lib.hid hof
               clear hv3 hv4 hb3 hcell hof)
            | (go_at_call 19
               refine HOF.out.mono ?_
               rintro e w4 ⟨rfl, hb4⟩
               have B4 := Lib.hid (B3.out.trans (hb4.mono B3.out.size))
               have hsm := sum_any A l c w4 (HST.out.below B4.out) (H.out.below B4.out) HA.out HC.out (by have := H1.out; omega)
               rw [← HV.out] at hsm
               have HSM := Lib.hid hsm
               clear hsm
               clear hb4)
            | (go_at_call 7
               refine HSM.out.mono ?_
               rintro e w5 ⟨rfl, hb5⟩
               have B5 := Lib.hid (B4.out.trans (hb5.mono B4.out.size))
               clear hb5))
          go_ret
          exact ⟨rfl, B5.out⟩

end Go.Proofs.YtijopeacgpmicaaDoor
