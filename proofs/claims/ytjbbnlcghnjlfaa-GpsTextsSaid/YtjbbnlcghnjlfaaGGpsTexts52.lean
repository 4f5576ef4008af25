/- Merged: GpsG. -/
import Derived.Test.YtjbbnlcghnjlfaaGGpsTexts48
import Derived.Test.YtjbbnlcghnjlfaaGGpsTexts50
import Derived.Test.YtjbbnlcghnjlfaaGGpsTexts51
namespace Go.Proofs.Ytjbbnlcghnjlfaa
open Go.RowKit
set_option linter.unusedVariables false
set_option linter.unusedSimpArgs false

theorem gp_no {l : List UInt8} (h : ¬ gGood l) : gpN l = 0 ∧ gpE l = 2 := ⟨if_neg h, if_neg h⟩
theorem gp_over {l : List UInt8} (h : gGood l) (h2 : ¬ fits (gY l)) : gpN l = 0 ∧ gpE l = 5 := ⟨by unfold gpN; rw [if_pos h, if_neg h2], by unfold gpE; rw [if_pos h, if_neg h2]⟩
theorem gp_yes {l : List UInt8} (h : gGood l) (h2 : fits (gY l)) : gpN l = taN (gY l) (gS l) ∧ gpE l = taE (gY l) (gS l) := ⟨by unfold gpN; rw [if_pos h, if_pos h2], by unfold gpE; rw [if_pos h, if_pos h2]⟩
theorem wh6 {r : List UInt8} (hl : r.length = 6) (h : 6 ≤ lead r) : whE r 6 6 mx = 0 ∧ whN r 6 6 mx = dv r := by
  obtain ⟨t1, t2, t3⟩ := tk_yes18 (r := r) (a := 6) (b := 6) (by omega) (by omega) (by omega) h
  rw [show min (lead r) 6 = r.length by omega] at t2 t3
  have x : whE r 6 6 mx = 0 := by
    show (if tkE r (6 : Nat) (6 : Nat) mx = 0 then _ else _) = (0 : Int)
    rw [if_pos t1, if_neg (by show ¬ tkK r (6 : Nat) (6 : Nat) mx < _; omega)]
  refine ⟨x, ?_⟩
  unfold whN; rw [if_pos x]
  show tkN r (6 : Nat) (6 : Nat) mx = _
  rw [t2, List.take_length]
theorem head_at (X : ByteArray) (h : 0 < X.size) : X.data.toList.head? = X.data.toList[0]? := by rw [List.head?_eq_getElem?]

set_option maxHeartbeats 2000000 in
theorem rgp_all_n (s X : ByteArray) (l : List UInt8) (w : World) (hs : X.size ≤ 100) (hss : s.size ≤ 101) (hp : 0 < s.size) (h45 : ((s[0].toNat : Int) == 45) = true) (hex : s.extract 1 s.size = X) (hb : bd l = X.data.toList) (hg : sig l = 1) :
    Calls Try.prog 13 #[.string s] w fun e w' => e = .returned (.tuple #[.int .i64 (gpN l), .int .i64 (gpE l)]) ∧ Below w.heap.size w w' := by
  have hsz : X.data.toList.length = X.size := by simp
  have hM := Lib.hid (fun w => many_any X w (by unfold maxLen; omega))
  have hk := lead_le X.data.toList
  have hyl : yl l = lead X.data.toList := by unfold yl; rw [hb]
  have hD := lead_mem (l := X.data.toList) (k := lead X.data.toList) (Nat.le_refl _)
  have hwb : wb l ↔ (lead X.data.toList < 4 ∨ (4 < lead X.data.toList ∧ X.data.toList.head? = some 48) ∨ (sig l = 1 ∧ X.data.toList.take (lead X.data.toList) = [48, 48, 48, 48])) := by unfold wb; rw [hb, hyl]
  have hgd : gGood l ↔ (¬ wb l ∧ X.data.toList.length = lead X.data.toList + 7 ∧ X.data.toList[lead X.data.toList]? = some 58 ∧ 6 ≤ lead (X.data.toList.drop (lead X.data.toList + 1))) := by unfold gGood; rw [hb, hyl]
  have hgY : gY l = if sig l = 1 then -((dv (X.data.toList.take (lead X.data.toList)) : Nat) : Int) else ((dv (X.data.toList.take (lead X.data.toList)) : Nat) : Int) := by unfold gY; rw [hb, hyl]
  have hgS : gS l = ((dv (X.data.toList.drop (lead X.data.toList + 1)) : Nat) : Int) := by unfold gS; rw [hb, hyl]
  have hlt : (X.data.toList.take (lead X.data.toList)).length = lead X.data.toList := by rw [List.length_take]; omega
  have hYl : (X.extract (lead X.data.toList + 1) X.size).data.toList = X.data.toList.drop (lead X.data.toList + 1) := by rw [Lib.extract_from]
  have hZl : (X.extract 0 (lead X.data.toList)).data.toList = X.data.toList.take (lead X.data.toList) := by rw [Lib.extract_upto]
  have hYs : (X.extract (lead X.data.toList + 1) X.size).size = X.size - (lead X.data.toList + 1) := by rw [← hsz, ← List.length_drop, ← hYl]; simp
  have hZs : (X.extract 0 (lead X.data.toList)).size = lead X.data.toList := by
    have h : (X.extract 0 (lead X.data.toList)).data.toList.length = lead X.data.toList := by rw [hZl, hlt]
    simpa using h
  have hZt : (X.extract 0 (lead X.data.toList)).toList = X.data.toList.take (lead X.data.toList) := by rw [ByteArray.toList_eq, hZl]
  have HJ := Lib.hid (fun w => many_any (X.extract (lead X.data.toList + 1) X.size) w (by unfold maxLen; omega))
  rw [hYl] at HJ
  have HB := Lib.hid (fun w => rbig_wide (X.extract 0 (lead X.data.toList)) w (by omega) (by rw [hZl]; exact hD))
  rw [hZl, hZs] at HB
  have HW := fun w => rwhole_any (X.extract (lead X.data.toList + 1) X.size) 6 6 w (by unfold maxLen; omega) (by decide) (by decide)
  rw [hYl] at HW
  have hdr : (X.data.toList.drop (lead X.data.toList + 1)).length = X.size - (lead X.data.toList + 1) := by rw [List.length_drop, hsz]
  have hjl := lead_le (X.data.toList.drop (lead X.data.toList + 1))
  generalize hYd : X.extract (lead X.data.toList + 1) X.size = Y at *
  generalize hZd : X.extract 0 (lead X.data.toList) = Z at *
  clear hYl hZl hYs hZs hyl hb
  rw [hsz] at hk
  rw [hg] at hwb hgY
  have hx48 : ∀ hx : 0 < X.size, X.data.toList.head? = some 48 → ((X[0].toNat : Int) == 48) = true := fun hx h => (byte_is hx 48).1 (by rw [← head_at X hx]; exact h)
  have hn48 : ∀ hx : 0 < X.size, ¬ X.data.toList.head? = some 48 → ((X[0].toNat : Int) == 48) = false := fun hx h => byte_no hx 48 (by rw [← head_at X hx]; exact h)
  generalize hK : lead X.data.toList = K at *
  generalize hJ : lead (X.data.toList.drop (K + 1)) = J at *
  clear hK
  have hx58 : ∀ hx : K < X.size, X.data.toList[K]? = some 58 → ((X[K].toNat : Int) != 58) = false := fun hx h => by rw [bne, show ((X[K].toNat : Int) == 58) = true from (byte_is hx 58).1 h]; rfl
  have hn58 : ∀ hx : K < X.size, ¬ X.data.toList[K]? = some 58 → ((X[K].toNat : Int) != 58) = true := fun hx h => by rw [bne, show ((X[K].toNat : Int) == 58) = false from byte_no hx 58 h]; rfl
  by_cases c1 : K < 4
  · have hng : ¬ gGood l := fun h => (hgd.1 h).1 (hwb.2 (.inl c1))
    rw [(gp_no hng).1, (gp_no hng).2]
    exact rgp_few_n s X Y Z K J w hs hk hss hp h45 hex hM c1
  · by_cases c2 : K = 4
    · by_cases c3 : X.size = K + 7
      · have hxk : K < X.size := by omega
        by_cases c4 : X.data.toList[K]? = some 58
        · by_cases c6 : J = 6
          · by_cases c7 : X.data.toList.take K = [48, 48, 48, 48]
            · have hng : ¬ gGood l := fun h => (hgd.1 h).1 (hwb.2 (.inr (.inr ⟨rfl, c7⟩)))
              rw [(gp_no hng).1, (gp_no hng).2]
              exact rgp_nought s X Y Z K J w hs hk hss hp h45 hex hM c2 c3 hxk (hx58 hxk c4) hYd c6 hZd (by rw [hZt, c7]; rfl) HJ
            · have hnw : ¬ wb l := by
                rw [hwb]
                rintro (h | h | h)
                · omega
                · omega
                · exact c7 h.2
              have hgg : gGood l := hgd.2 ⟨hnw, by omega, c4, by omega⟩
              have h6 := wh6 (r := X.data.toList.drop (K + 1)) (by omega) (by omega)
              rw [h6.1, h6.2] at HW
              rw [if_pos rfl] at hgY
              have hv := gS_fits hgg
              rw [hgS] at hv
              have HS := fun v w h => small_any v (gY l) (4 + 6 * K) w h (by omega)
              have HT := fun d w => rgtai_any (gY l) (gS l) w d (by rw [hgS]; unfold fits; omega)
              by_cases d : fits (gY l)
              · rw [(gp_yes hgg d).1, (gp_yes hgg d).2]
                rw [sm_fit d, bad_fit d] at HS
                have HT := HT d
                generalize taN (gY l) (gS l) = z at *
                generalize taE (gY l) (gS l) = r at *
                rw [hgY] at HS HT
                rw [hgS] at HT
                exact rgp_ok_four_n s X Y Z K J w hs hk hss hp h45 hex hM c2 c3 hxk (hx58 hxk c4) hYd c6 hZd (by rw [hZt]; exact beq_eq_false_iff_ne.2 c7) _ _ _ _ (IntWalk.i64_in _ (by omega)) _ _ (by omega) HJ HB (Lib.hid HS) (Lib.hid HW) (Lib.hid HT)
              · rw [(gp_over hgg d).1, (gp_over hgg d).2]
                rw [sm_no d, bad_no d] at HS
                rw [hgY] at HS
                exact rgp_over_four_n s X Y Z K J w hs hk hss hp h45 hex hM c2 c3 hxk (hx58 hxk c4) hYd c6 hZd (by rw [hZt]; exact beq_eq_false_iff_ne.2 c7) _ _ (by omega) HJ HB (Lib.hid HS)
          · have hng : ¬ gGood l := fun h => by have := (hgd.1 h).2.2.2; omega
            rw [(gp_no hng).1, (gp_no hng).2]
            exact rgp_rest_four_n s X Y Z K J w hs hk hss hp h45 hex hM c2 c3 hxk (hx58 hxk c4) hYd c6 HJ
        · have hng : ¬ gGood l := fun h => c4 (hgd.1 h).2.2.1
          rw [(gp_no hng).1, (gp_no hng).2]
          exact rgp_mark_four_n s X Y Z K J w hs hk hss hp h45 hex hM c2 c3 hxk (hn58 hxk c4)
      · have hng : ¬ gGood l := fun h => c3 (by have := (hgd.1 h).2.1; omega)
        rw [(gp_no hng).1, (gp_no hng).2]
        exact rgp_len_four_n s X Y Z K J w hs hk hss hp h45 hex hM c2 c3
    · have c2 : 4 < K := by omega
      have hx : 0 < X.size := by omega
      by_cases d48 : X.data.toList.head? = some 48
      · have hng : ¬ gGood l := fun h => (hgd.1 h).1 (hwb.2 (.inr (.inl ⟨c2, d48⟩)))
        rw [(gp_no hng).1, (gp_no hng).2]
        exact rgp_zero_n s X Y Z K J w hs hk hss hp h45 hex hM c2 hx (hx48 hx d48)
      · by_cases c3 : X.size = K + 7
        · have hxk : K < X.size := by omega
          by_cases c4 : X.data.toList[K]? = some 58
          · by_cases c6 : J = 6
            · have c7 : X.data.toList.take K ≠ [48, 48, 48, 48] := by intro e; rw [e] at hlt; simp at hlt; omega
              have hnw : ¬ wb l := by
                rw [hwb]
                rintro (h | h | h)
                · omega
                · exact d48 h.2
                · exact c7 h.2
              have hgg : gGood l := hgd.2 ⟨hnw, by omega, c4, by omega⟩
              have h6 := wh6 (r := X.data.toList.drop (K + 1)) (by omega) (by omega)
              rw [h6.1, h6.2] at HW
              rw [if_pos rfl] at hgY
              have hv := gS_fits hgg
              rw [hgS] at hv
              have HS := fun v w h => small_any v (gY l) (4 + 6 * K) w h (by omega)
              have HT := fun d w => rgtai_any (gY l) (gS l) w d (by rw [hgS]; unfold fits; omega)
              by_cases d : fits (gY l)
              · rw [(gp_yes hgg d).1, (gp_yes hgg d).2]
                rw [sm_fit d, bad_fit d] at HS
                have HT := HT d
                generalize taN (gY l) (gS l) = z at *
                generalize taE (gY l) (gS l) = r at *
                rw [hgY] at HS HT
                rw [hgS] at HT
                exact rgp_ok_many_n s X Y Z K J w hs hk hss hp h45 hex hM c2 hx (hn48 hx d48) c3 hxk (hx58 hxk c4) hYd c6 hZd (by rw [hZt]; exact beq_eq_false_iff_ne.2 c7) _ _ _ _ (IntWalk.i64_in _ (by omega)) _ _ (by omega) HJ HB (Lib.hid HS) (Lib.hid HW) (Lib.hid HT)
              · rw [(gp_over hgg d).1, (gp_over hgg d).2]
                rw [sm_no d, bad_no d] at HS
                rw [hgY] at HS
                exact rgp_over_many_n s X Y Z K J w hs hk hss hp h45 hex hM c2 hx (hn48 hx d48) c3 hxk (hx58 hxk c4) hYd c6 hZd (by rw [hZt]; exact beq_eq_false_iff_ne.2 c7) _ _ (by omega) HJ HB (Lib.hid HS)
            · have hng : ¬ gGood l := fun h => by have := (hgd.1 h).2.2.2; omega
              rw [(gp_no hng).1, (gp_no hng).2]
              exact rgp_rest_many_n s X Y Z K J w hs hk hss hp h45 hex hM c2 hx (hn48 hx d48) c3 hxk (hx58 hxk c4) hYd c6 HJ
          · have hng : ¬ gGood l := fun h => c4 (hgd.1 h).2.2.1
            rw [(gp_no hng).1, (gp_no hng).2]
            exact rgp_mark_many_n s X Y Z K J w hs hk hss hp h45 hex hM c2 hx (hn48 hx d48) c3 hxk (hn58 hxk c4)
        · have hng : ¬ gGood l := fun h => c3 (by have := (hgd.1 h).2.1; omega)
          rw [(gp_no hng).1, (gp_no hng).2]
          exact rgp_len_many_n s X Y Z K J w hs hk hss hp h45 hex hM c2 hx (hn48 hx d48) c3

set_option maxHeartbeats 2000000 in
theorem rgp_all_p (s X : ByteArray) (l : List UInt8) (w : World) (hs : X.size ≤ 100) (hp : 0 < X.size) (h45 : ((X[0].toNat : Int) == 45) = false) (hb : bd l = X.data.toList) (hg : sig l = 0) :
    Calls Try.prog 13 #[.string X] w fun e w' => e = .returned (.tuple #[.int .i64 (gpN l), .int .i64 (gpE l)]) ∧ Below w.heap.size w w' := by
  have hsz : X.data.toList.length = X.size := by simp
  have hM := Lib.hid (fun w => many_any X w (by unfold maxLen; omega))
  have hk := lead_le X.data.toList
  have hyl : yl l = lead X.data.toList := by unfold yl; rw [hb]
  have hD := lead_mem (l := X.data.toList) (k := lead X.data.toList) (Nat.le_refl _)
  have hwb : wb l ↔ (lead X.data.toList < 4 ∨ (4 < lead X.data.toList ∧ X.data.toList.head? = some 48) ∨ (sig l = 1 ∧ X.data.toList.take (lead X.data.toList) = [48, 48, 48, 48])) := by unfold wb; rw [hb, hyl]
  have hgd : gGood l ↔ (¬ wb l ∧ X.data.toList.length = lead X.data.toList + 7 ∧ X.data.toList[lead X.data.toList]? = some 58 ∧ 6 ≤ lead (X.data.toList.drop (lead X.data.toList + 1))) := by unfold gGood; rw [hb, hyl]
  have hgY : gY l = if sig l = 1 then -((dv (X.data.toList.take (lead X.data.toList)) : Nat) : Int) else ((dv (X.data.toList.take (lead X.data.toList)) : Nat) : Int) := by unfold gY; rw [hb, hyl]
  have hgS : gS l = ((dv (X.data.toList.drop (lead X.data.toList + 1)) : Nat) : Int) := by unfold gS; rw [hb, hyl]
  have hlt : (X.data.toList.take (lead X.data.toList)).length = lead X.data.toList := by rw [List.length_take]; omega
  have hYl : (X.extract (lead X.data.toList + 1) X.size).data.toList = X.data.toList.drop (lead X.data.toList + 1) := by rw [Lib.extract_from]
  have hZl : (X.extract 0 (lead X.data.toList)).data.toList = X.data.toList.take (lead X.data.toList) := by rw [Lib.extract_upto]
  have hYs : (X.extract (lead X.data.toList + 1) X.size).size = X.size - (lead X.data.toList + 1) := by rw [← hsz, ← List.length_drop, ← hYl]; simp
  have hZs : (X.extract 0 (lead X.data.toList)).size = lead X.data.toList := by
    have h : (X.extract 0 (lead X.data.toList)).data.toList.length = lead X.data.toList := by rw [hZl, hlt]
    simpa using h
  have hZt : (X.extract 0 (lead X.data.toList)).toList = X.data.toList.take (lead X.data.toList) := by rw [ByteArray.toList_eq, hZl]
  have HJ := Lib.hid (fun w => many_any (X.extract (lead X.data.toList + 1) X.size) w (by unfold maxLen; omega))
  rw [hYl] at HJ
  have HB := Lib.hid (fun w => rbig_wide (X.extract 0 (lead X.data.toList)) w (by omega) (by rw [hZl]; exact hD))
  rw [hZl, hZs] at HB
  have HW := fun w => rwhole_any (X.extract (lead X.data.toList + 1) X.size) 6 6 w (by unfold maxLen; omega) (by decide) (by decide)
  rw [hYl] at HW
  have hdr : (X.data.toList.drop (lead X.data.toList + 1)).length = X.size - (lead X.data.toList + 1) := by rw [List.length_drop, hsz]
  have hjl := lead_le (X.data.toList.drop (lead X.data.toList + 1))
  generalize hYd : X.extract (lead X.data.toList + 1) X.size = Y at *
  generalize hZd : X.extract 0 (lead X.data.toList) = Z at *
  clear hYl hZl hYs hZs hyl hb
  rw [hsz] at hk
  rw [hg] at hwb hgY
  have hx48 : ∀ hx : 0 < X.size, X.data.toList.head? = some 48 → ((X[0].toNat : Int) == 48) = true := fun hx h => (byte_is hx 48).1 (by rw [← head_at X hx]; exact h)
  have hn48 : ∀ hx : 0 < X.size, ¬ X.data.toList.head? = some 48 → ((X[0].toNat : Int) == 48) = false := fun hx h => byte_no hx 48 (by rw [← head_at X hx]; exact h)
  generalize hK : lead X.data.toList = K at *
  generalize hJ : lead (X.data.toList.drop (K + 1)) = J at *
  clear hK
  have hx58 : ∀ hx : K < X.size, X.data.toList[K]? = some 58 → ((X[K].toNat : Int) != 58) = false := fun hx h => by rw [bne, show ((X[K].toNat : Int) == 58) = true from (byte_is hx 58).1 h]; rfl
  have hn58 : ∀ hx : K < X.size, ¬ X.data.toList[K]? = some 58 → ((X[K].toNat : Int) != 58) = true := fun hx h => by rw [bne, show ((X[K].toNat : Int) == 58) = false from byte_no hx 58 h]; rfl
  by_cases c1 : K < 4
  · have hng : ¬ gGood l := fun h => (hgd.1 h).1 (hwb.2 (.inl c1))
    rw [(gp_no hng).1, (gp_no hng).2]
    exact rgp_few_p s X Y Z K J w hs hk hp h45 hM c1
  · by_cases c2 : K = 4
    · by_cases c3 : X.size = K + 7
      · have hxk : K < X.size := by omega
        by_cases c4 : X.data.toList[K]? = some 58
        · by_cases c6 : J = 6
          · have hnw : ¬ wb l := by
              rw [hwb]
              rintro (h | h | h)
              · omega
              · omega
              · omega
            have hgg : gGood l := hgd.2 ⟨hnw, by omega, c4, by omega⟩
            have h6 := wh6 (r := X.data.toList.drop (K + 1)) (by omega) (by omega)
            rw [h6.1, h6.2] at HW
            rw [if_neg (by decide)] at hgY
            have hv := gS_fits hgg
            rw [hgS] at hv
            have HS := fun v w h => small_any v (gY l) (4 + 6 * K) w h (by omega)
            have HT := fun d w => rgtai_any (gY l) (gS l) w d (by rw [hgS]; unfold fits; omega)
            by_cases d : fits (gY l)
            · rw [(gp_yes hgg d).1, (gp_yes hgg d).2]
              rw [sm_fit d, bad_fit d] at HS
              have HT := HT d
              generalize taN (gY l) (gS l) = z at *
              generalize taE (gY l) (gS l) = r at *
              rw [hgY] at HS HT
              rw [hgS] at HT
              exact rgp_ok_four_p s X Y Z K J w hs hk hp h45 hM c2 c3 hxk (hx58 hxk c4) hYd c6 hZd  _ _ _ _ (IntWalk.i64_in _ (by omega)) _ _ (by omega) HJ HB (Lib.hid HS) (Lib.hid HW) (Lib.hid HT)
            · rw [(gp_over hgg d).1, (gp_over hgg d).2]
              rw [sm_no d, bad_no d] at HS
              rw [hgY] at HS
              exact rgp_over_four_p s X Y Z K J w hs hk hp h45 hM c2 c3 hxk (hx58 hxk c4) hYd c6 hZd  _ _ (by omega) HJ HB (Lib.hid HS)
          · have hng : ¬ gGood l := fun h => by have := (hgd.1 h).2.2.2; omega
            rw [(gp_no hng).1, (gp_no hng).2]
            exact rgp_rest_four_p s X Y Z K J w hs hk hp h45 hM c2 c3 hxk (hx58 hxk c4) hYd c6 HJ
        · have hng : ¬ gGood l := fun h => c4 (hgd.1 h).2.2.1
          rw [(gp_no hng).1, (gp_no hng).2]
          exact rgp_mark_four_p s X Y Z K J w hs hk hp h45 hM c2 c3 hxk (hn58 hxk c4)
      · have hng : ¬ gGood l := fun h => c3 (by have := (hgd.1 h).2.1; omega)
        rw [(gp_no hng).1, (gp_no hng).2]
        exact rgp_len_four_p s X Y Z K J w hs hk hp h45 hM c2 c3
    · have c2 : 4 < K := by omega
      have hx : 0 < X.size := by omega
      by_cases d48 : X.data.toList.head? = some 48
      · have hng : ¬ gGood l := fun h => (hgd.1 h).1 (hwb.2 (.inr (.inl ⟨c2, d48⟩)))
        rw [(gp_no hng).1, (gp_no hng).2]
        exact rgp_zero_p s X Y Z K J w hs hk hp h45 hM c2 hx (hx48 hx d48)
      · by_cases c3 : X.size = K + 7
        · have hxk : K < X.size := by omega
          by_cases c4 : X.data.toList[K]? = some 58
          · by_cases c6 : J = 6
            · have hnw : ¬ wb l := by
                rw [hwb]
                rintro (h | h | h)
                · omega
                · exact d48 h.2
                · omega
              have hgg : gGood l := hgd.2 ⟨hnw, by omega, c4, by omega⟩
              have h6 := wh6 (r := X.data.toList.drop (K + 1)) (by omega) (by omega)
              rw [h6.1, h6.2] at HW
              rw [if_neg (by decide)] at hgY
              have hv := gS_fits hgg
              rw [hgS] at hv
              have HS := fun v w h => small_any v (gY l) (4 + 6 * K) w h (by omega)
              have HT := fun d w => rgtai_any (gY l) (gS l) w d (by rw [hgS]; unfold fits; omega)
              by_cases d : fits (gY l)
              · rw [(gp_yes hgg d).1, (gp_yes hgg d).2]
                rw [sm_fit d, bad_fit d] at HS
                have HT := HT d
                generalize taN (gY l) (gS l) = z at *
                generalize taE (gY l) (gS l) = r at *
                rw [hgY] at HS HT
                rw [hgS] at HT
                exact rgp_ok_many_p s X Y Z K J w hs hk hp h45 hM c2 hx (hn48 hx d48) c3 hxk (hx58 hxk c4) hYd c6 hZd  _ _ _ _ (IntWalk.i64_in _ (by omega)) _ _ (by omega) HJ HB (Lib.hid HS) (Lib.hid HW) (Lib.hid HT)
              · rw [(gp_over hgg d).1, (gp_over hgg d).2]
                rw [sm_no d, bad_no d] at HS
                rw [hgY] at HS
                exact rgp_over_many_p s X Y Z K J w hs hk hp h45 hM c2 hx (hn48 hx d48) c3 hxk (hx58 hxk c4) hYd c6 hZd  _ _ (by omega) HJ HB (Lib.hid HS)
            · have hng : ¬ gGood l := fun h => by have := (hgd.1 h).2.2.2; omega
              rw [(gp_no hng).1, (gp_no hng).2]
              exact rgp_rest_many_p s X Y Z K J w hs hk hp h45 hM c2 hx (hn48 hx d48) c3 hxk (hx58 hxk c4) hYd c6 HJ
          · have hng : ¬ gGood l := fun h => c4 (hgd.1 h).2.2.1
            rw [(gp_no hng).1, (gp_no hng).2]
            exact rgp_mark_many_p s X Y Z K J w hs hk hp h45 hM c2 hx (hn48 hx d48) c3 hxk (hn58 hxk c4)
        · have hng : ¬ gGood l := fun h => c3 (by have := (hgd.1 h).2.1; omega)
          rw [(gp_no hng).1, (gp_no hng).2]
          exact rgp_len_many_p s X Y Z K J w hs hk hp h45 hM c2 hx (hn48 hx d48) c3

theorem rgparse_any (s : ByteArray) (w : World) (hs : s.size ≤ 100) :
    Calls Try.prog 13 #[.string s] w fun e w' => e = .returned (.tuple #[.int .i64 (gpN s.data.toList), .int .i64 (gpE s.data.toList)]) ∧ Below w.heap.size w w' := by
  rcases sign_is s with ⟨hz, _, e⟩ | ⟨hp, ⟨h45, hg, e⟩ | ⟨h45, hg, e⟩⟩
  · have hn : s.data.toList = [] := List.eq_nil_of_length_eq_zero (by simpa using hz)
    have hng : ¬ gGood s.data.toList := fun h => h.1 (by rw [hn]; exact .inl (by decide))
    rw [(gp_no hng).1, (gp_no hng).2]
    exact rgp_nil s w hz
  · exact rgp_all_n s _ s.data.toList w (by rw [ByteArray.size_extract]; omega) (by omega) hp h45 rfl e hg
  · exact rgp_all_p s s s.data.toList w hs hp h45 e hg

set_option maxHeartbeats 2000000 in
theorem texts_walk14 (s : ByteArray) (w : World) :
    Calls Try.prog 4 #[.string s] w fun e w' => e = .returned (.bool true) ∧ Below w.heap.size w w' := by
  have HA := Lib.hid (fun w => alive14_any w)
  by_cases h : s.size ≤ 100
  · have H1 := Lib.hid (fun w => gparse_any s w (by omega))
    have H2 := Lib.hid (fun w => rgparse_any s w h)
    have HE : Hid (0 ≤ gpE s.data.toList ∧ gpE s.data.toList < 100) := Lib.hid (by
      unfold gpE
      split
      · split
        · exact taE_lo _ _
        · decide
      · decide)
    have d : ¬ ((s.size : Int) > 100) := by omega
    generalize gpE s.data.toList = E at *
    generalize gpN s.data.toList = V at *
    clear h
    go_enter Try.func4, Try.ntmps4
    go_wp2_with first
      | (go_at_call 5; refine (HA.out _).mono ?_; rintro e w' ⟨rfl, rfl⟩)
      | (go_at_call 12; refine (H1.out _).mono ?_; rintro e w1 ⟨rfl, hb⟩; have B := Lib.hid hb; clear hb)
      | (go_at_call 13; refine (H2.out _).mono ?_; rintro e w2 ⟨rfl, hb⟩; have B := Lib.hid (B.out.trans (hb.mono B.out.size)); clear hb)
      | (go_at_call 8; refine (num_any E _ HE.out.1 HE.out.2).mono ?_; rintro e w' ⟨rfl, rfl⟩)
    go_ret
    exact ⟨by simp, B.out⟩
  · have d : (s.size : Int) > 100 := by omega
    clear h
    go_enter Try.func4, Try.ntmps4
    go_wp2_with (go_at_call 5; refine (HA.out _).mono ?_; rintro e w' ⟨rfl, rfl⟩)
    go_ret
    exact ⟨rfl, Below.refl _ _⟩
end Go.Proofs.Ytjbbnlcghnjlfaa
