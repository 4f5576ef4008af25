/- Merged: PosN. -/
import Derived.Test.YtkhcneacjnpcnaaGPosixParses13
namespace Go.Proofs.Ytkhcneacjnpcnaa
open Go.RowKit
set_option linter.unusedVariables false
set_option linter.unusedSimpArgs false

theorem byte_all {p : UInt8 → Bool} (h : ∀ n, n < 256 → p (UInt8.ofNat n) = true) (b : UInt8) : p b = true := by
  have := h b.toNat b.toNat_lt
  simpa using this
theorem bool_imp {a b : Bool} (h : (!a || b) = true) (ha : a = true) : b = true := by rw [ha] at h; simpa using h
theorem lt_60 (b : UInt8) : ltB b = true → b ≠ 60 ∧ clB b = false ∧ b ≠ 44 := by
  intro h
  have := bool_imp (byte_all (p := fun b => !(ltB b) || ((b != 60) && (clB b == false) && (b != 44))) (by decide +kernel) b) h
  simp only [Bool.and_eq_true, bne_iff_ne, beq_iff_eq] at this
  exact ⟨this.1.1, this.1.2, this.2⟩
theorem nm_62 (b : UInt8) : nmB b = true → b ≠ 62 := by
  intro h
  have := bool_imp (byte_all (p := fun b => !(nmB b) || (b != 62)) (by decide +kernel) b) h
  exact bne_iff_ne.1 this
theorem cl_44 (b : UInt8) : clB b = true → b ≠ 44 ∧ ltB b = false ∧ b ≠ 60 := by
  intro h
  have := bool_imp (byte_all (p := fun b => !(clB b) || ((b != 44) && (ltB b == false) && (b != 60))) (by decide +kernel) b) h
  simp only [Bool.and_eq_true, bne_iff_ne, beq_iff_eq] at this
  exact ⟨this.1.1, this.1.2, this.2⟩
theorem isd_cl {b : UInt8} (h : isd b = true) : clB b = true := by unfold clB; rw [h]; rfl
/-- A text that begins with such bytes, and goes on with another one, or not at all. -/
def stp (p : UInt8 → Bool) (r : List UInt8) : Prop := ∀ b, r.head? = some b → p b = false
theorem stp_nil (p : UInt8 → Bool) : stp p [] := by intro b h; cases h
theorem stp_cons {p : UInt8 → Bool} {b : UInt8} (r : List UInt8) (h : p b = false) : stp p (b :: r) := by intro c hc; injection hc with hc; rw [← hc]; exact h
theorem twl_app {p : UInt8 → Bool} {a r : List UInt8} (h : ∀ b ∈ a, p b = true) (hr : stp p r) : (a ++ r).takeWhile p = a := by
  rw [List.takeWhile_append_of_pos h]
  cases r with
  | nil => simp
  | cons b r => rw [List.takeWhile_cons, hr b rfl]; simp
theorem drop_app {l a r : List UInt8} {k : Nat} (h : l.drop k = a ++ r) : l.drop (k + a.length) = r := by
  rw [← List.drop_drop, h]; simp
theorem rs0 (l : List UInt8) (k : Nat) : rs l k 0 = l.drop k := rs_zero l k
/-- A name. -/
theorem na_put {l n r : List UInt8} {k : Nat} (h : l.drop k = nmL n ++ r) (hn : nmP n = true) (hr : n.all ltB = true → stp ltB r) :
    naS l k 0 = n ∧ naE l k 0 = 0 ∧ l.drop (naK l k 0) = r := by
  obtain ⟨b1, b2, b3⟩ := nmP_bd hn
  by_cases c : n.all ltB = true
  · have hL : nmL n = n := if_pos c
    rw [hL] at h
    have ha : ∀ b ∈ n, ltB b = true := List.all_eq_true.1 c
    have hh : ¬ (rs l k 0).head? = some 60 := by
      rw [rs0, h]
      cases n with
      | nil => simp at b1
      | cons x n =>
        intro q; injection q with q
        exact (lt_60 x (ha x (by simp))).1 q
    have ht : (rs l k 0).takeWhile ltB = n := by rw [rs0, h]; exact twl_app ha (hr c)
    have e1 : naS l k 0 = n := by unfold naS; rw [if_neg hh, ht]
    refine ⟨e1, ?_, ?_⟩
    · unfold naE; rw [e1, if_pos hn]; unfold naF; rw [if_neg hh]
    · unfold naK; rw [if_neg hh, ht]; exact drop_app h
  · have hL : nmL n = 60 :: (n ++ [62]) := if_neg c
    rw [hL] at h
    have h' : l.drop k = 60 :: (n ++ 62 :: r) := by rw [h]; simp
    have hh : (rs l k 0).head? = some 60 := by rw [rs0, h']; rfl
    have hd : l.drop (k + 1) = n ++ 62 :: r := by rw [← List.drop_drop, h']; rfl
    have ht : qb 62 (rs l (k + 1) 0) = n := by
      rw [rs0, hd]
      exact twl_app (p := (· != 62)) (fun b hb => bne_iff_ne.2 (nm_62 b (b3 b hb))) (stp_cons _ rfl)
    have hd2 : l.drop (k + 1 + n.length) = 62 :: r := drop_app hd
    have hm : (rs l (k + 1 + n.length) 0).head? = some 62 := by rw [rs0, hd2]; rfl
    have e1 : naS l k 0 = n := by unfold naS; rw [if_pos hh, ht]
    refine ⟨e1, ?_, ?_⟩
    · unfold naE; rw [e1, if_pos hn]; unfold naF; rw [if_pos hh, ht]; unfold mcE; rw [if_pos hm]
    · unfold naK; rw [if_pos hh, ht]; unfold mcK; rw [if_pos hm, ← List.drop_drop, hd2]; rfl
theorem pad_cl (u : Nat) : ∀ b ∈ pad 2 (Lib.decDigits u), clB b = true := fun b hb => isd_cl (pad_isd (dec_isd u) b hb)
theorem dec_cl (u : Nat) : ∀ b ∈ Lib.decDigits u, clB b = true := fun b hb => isd_cl (dec_isd u b hb)
theorem cku_cl (a : Nat) : ∀ b ∈ ckU a, clB b = true := by
  intro b hb
  unfold ckU at hb
  rcases List.mem_append.1 hb with hb | hb
  · rcases List.mem_append.1 hb with hb | hb
    · exact dec_cl _ b hb
    · split at hb
      · cases hb
      · rcases List.mem_cons.1 hb with rfl | hb
        · decide
        · exact pad_cl _ b hb
  · split at hb
    · cases hb
    · rcases List.mem_cons.1 hb with rfl | hb
      · decide
      · exact pad_cl _ b hb
theorem ckl_cl (t : Int) : ∀ b ∈ ckL t, clB b = true := by
  intro b hb
  unfold ckL at hb
  split at hb
  · rcases List.mem_cons.1 hb with rfl | hb
    · decide
    · exact cku_cl _ b hb
  · exact cku_cl _ b hb
theorem ckl_ne (t : Int) : ckL t ≠ [] := by
  obtain ⟨b, r, e, -⟩ := cku_head t.natAbs
  unfold ckL; split
  · simp
  · rw [e]; simp
theorem ckl_stp (t : Int) (r : List UInt8) : stp ltB (ckL t ++ r) ∧ ∀ b, (ckL t ++ r).head? = some b → b ≠ 44 := by
  cases h : ckL t with
  | nil => exact absurd h (ckl_ne t)
  | cons x y =>
    have := ckl_cl t x (by rw [h]; simp)
    have := cl_44 x this
    refine ⟨stp_cons _ this.2.1, ?_⟩
    intro b hb; injection hb with hb; rw [← hb]; exact this.1
theorem nml_stp {n : List UInt8} (hn : nmP n = true) (r : List UInt8) : stp clB (nmL n ++ r) := by
  obtain ⟨b1, b2, b3⟩ := nmP_bd hn
  by_cases c : n.all ltB = true
  · rw [show nmL n = n from if_pos c]
    cases n with
    | nil => simp at b1
    | cons x n => exact stp_cons _ (lt_60 x (List.all_eq_true.1 c x (by simp))).2.1
  · rw [show nmL n = 60 :: (n ++ [62]) from if_neg c]
    exact stp_cons _ (by decide)
theorem nml_ne {n : List UInt8} (hn : nmP n = true) : nmL n ≠ [] := by
  obtain ⟨b1, b2, b3⟩ := nmP_bd hn
  unfold nmL; split
  · intro h; rw [h] at b1; simp at b1
  · simp
/-- An offset. -/
theorem of_put {l r : List UInt8} {k : Nat} {t : Int} (h : l.drop k = ckL (-t) ++ r) (h1 : -89999 ≤ t) (h2 : t ≤ 89999) (hr : stp clB r) :
    ofN l k 0 = t ∧ ofE l k 0 = 0 ∧ l.drop (ofK l k 0) = r := by
  have hS : ofS l k 0 = ckL (-t) := by unfold ofS; rw [rs0, h]; exact twl_app (ckl_cl _) hr
  obtain ⟨c1, c2⟩ := ck_back (t := -t) (most := 24) ⟨by decide, by omega, by omega⟩
  refine ⟨?_, ?_, ?_⟩
  · unfold ofN; rw [hS, c2]; omega
  · unfold ofE; rw [hS, c1, if_pos rfl]
  · unfold ofK; rw [hS]; exact drop_app h
theorem rul_44 {r : Ru} (h : ruE r = 0) : ∀ b ∈ ruL r, b ≠ 44 := by
  have hd : ∀ (n : Int), 0 ≤ n → ∀ b ∈ ptL n 1, b ≠ 44 := by
    intro n h0 b hb; rw [pt1 h0] at hb; exact (cl_44 b (dec_cl _ b hb)).1
  have h1 : ∀ b ∈ dyL r, b ≠ 44 := by
    unfold dyL
    rcases ruE_kinds h with ⟨k, m0, w0, d1, d2⟩ | ⟨k, m0, w0, d1, d2⟩ | ⟨k, m1, m2, w1, w2, d1, d2⟩
    · rw [if_pos k]; exact app_ne (one_ne (by decide)) (hd _ (by omega))
    · rw [if_neg (by omega), if_pos k]; exact hd _ (by omega)
    · rw [if_neg (by omega), if_neg (by omega)]
      exact app_ne (app_ne (app_ne (app_ne (app_ne (one_ne (by decide)) (hd _ (by omega))) (one_ne (by decide))) (hd _ (by omega))) (one_ne (by decide))) (hd _ (by omega))
  unfold ruL; split
  · exact h1
  · exact app_ne (app_ne h1 (one_ne (by decide))) (fun b hb => (cl_44 b (ckl_cl _ b hb)).1)
/-- A comma and a rule. -/
theorem ch_put {l t : List UInt8} {k : Nat} {r : Ru} (h : l.drop k = 44 :: (ruL r ++ t)) (hr : ruE r = 0) (ht : stp (· != 44) t) :
    chV l k 0 = r ∧ chE l k 0 = 0 ∧ l.drop (chK l k 0) = t := by
  have hh : (rs l k 0).head? = some 44 := by rw [rs0, h]; rfl
  have e1 : mcK 44 l k 0 = k + 1 := if_pos hh
  have e2 : mcE 44 l k 0 = 0 := if_pos hh
  have hd : l.drop (k + 1) = ruL r ++ t := by rw [← List.drop_drop, h]; rfl
  have hS : chS l k 0 = ruL r := by
    unfold chS; rw [e1, e2, rs0, hd]
    exact twl_app (p := (· != 44)) (fun b hb => bne_iff_ne.2 (rul_44 hr b hb)) ht
  obtain ⟨r1, r2⟩ := rp_put hr
  refine ⟨?_, ?_, ?_⟩
  · unfold chV; rw [hS, r2]
  · unfold chE; rw [hS, r1, if_pos rfl, e2]
  · unfold chK; rw [hS, e1]; exact drop_app hd
theorem drop_end {l : List UInt8} {k : Nat} (h : l.drop k = []) : enE l k 0 = 0 := enE16_nil h
/-- All of it. -/
theorem ps_put {p : Pl} (h : plE p = 0) : psE (plL p) = 0 ∧ psV (plL p) = p := by
  obtain ⟨hN, ho, ha, hs⟩ := plE_zero h
  obtain ⟨l, hl⟩ : ∃ l, l = plL p := ⟨_, rfl⟩
  rw [← hl]
  rcases hs with ⟨s0, a0, b0, e0⟩ | ⟨s0, hS, hB, hE⟩
  · have h0 : l.drop 0 = nmL p.N ++ (ckL (-p.O) ++ []) := by rw [hl, List.drop_zero, List.append_nil]; exact if_pos s0
    obtain ⟨a1, a2, a3⟩ := na_put h0 hN (fun _ => (ckl_stp _ _).1)
    obtain ⟨b1, b2, b3⟩ := of_put a3 ho.1 ho.2 (stp_nil _)
    have k1 : p1E l = 0 := a2
    have k2 : p2E l = 0 := by unfold p2E; rw [k1]; exact b2
    have k3 : p2O l = p.O := by unfold p2O; rw [k1]; exact b1
    have k4 : rs l (p2K l) (p2E l) = [] := by rw [k2, rs0]; unfold p2K; rw [k1]; exact b3
    have v : plV l = p := by
      unfold plV; rw [if_pos k4, a1, k3]
      obtain ⟨N, S, O, A, B, E⟩ := p
      dsimp at s0 a0 b0 e0 ⊢; subst s0; subst a0; subst b0; subst e0; rfl
    have e : enE l (plK l) (plF l) = 0 := by
      unfold plK plF; rw [if_pos k4, if_pos k4, k2]
      refine drop_end ?_
      rw [k2, rs0] at k4; exact k4
    have z : psE l = 0 := by unfold psE; rw [if_pos e, v]; exact h
    exact ⟨z, by unfold psV; rw [if_pos z]; exact v⟩
  · have h0 : l.drop 0 = nmL p.N ++ (ckL (-p.O) ++ (nmL p.S ++ (adL p ++ (44 :: (ruL p.B ++ (44 :: (ruL p.E ++ []))))))) := by
      rw [hl, List.drop_zero, List.append_nil]; exact if_neg s0
    obtain ⟨a1, a2, a3⟩ := na_put h0 hN (fun _ => (ckl_stp _ _).1)
    obtain ⟨b1, b2, b3⟩ := of_put a3 ho.1 ho.2 (nml_stp hS _)
    have st : p.S.all ltB = true → stp ltB (adL p ++ (44 :: (ruL p.B ++ (44 :: (ruL p.E ++ []))))) := by
      intro _
      unfold adL; split
      · exact stp_cons _ (by decide)
      · exact (ckl_stp _ _).1
    obtain ⟨c1, c2, c3⟩ := na_put b3 hS st
    have k1 : p1E l = 0 := a2
    have k2 : p2E l = 0 := by unfold p2E; rw [k1]; exact b2
    have k3 : p2O l = p.O := by unfold p2O; rw [k1]; exact b1
    have K2 : p2K l = ofK l (naK l 0 0) 0 := by unfold p2K; rw [k1]; rfl
    rw [← K2] at b3 c1 c2 c3
    have k4 : ¬ rs l (p2K l) (p2E l) = [] := by
      rw [k2, rs0, b3]
      intro q
      exact nml_ne hS (List.append_eq_nil_iff.1 q).1
    have k5 : p3E l = 0 := by unfold p3E; rw [k2]; exact c2
    have K3 : p3K l = naK l (p2K l) 0 := by unfold p3K; rw [k2]
    rw [← K3] at c3
    have ad : adN l (p3K l) 0 p.O = p.A ∧ adE l (p3K l) 0 = 0 ∧ l.drop (adK l (p3K l) 0) = 44 :: (ruL p.B ++ (44 :: (ruL p.E ++ []))) := by
      by_cases q : p.A = p.O + 3600
      · have c3' : l.drop (p3K l) = 44 :: (ruL p.B ++ (44 :: (ruL p.E ++ []))) := by rw [c3]; unfold adL; rw [if_pos q]; rfl
        have hh : (rs l (p3K l) 0).head? = some 44 := by rw [rs0, c3']; rfl
        unfold adN adE adK
        rw [if_pos hh, if_pos hh, if_pos hh]
        exact ⟨q.symm, rfl, c3'⟩
      · have c3' : l.drop (p3K l) = ckL (-p.A) ++ (44 :: (ruL p.B ++ (44 :: (ruL p.E ++ [])))) := by rw [c3]; unfold adL; rw [if_neg q]
        have hh : ¬ (rs l (p3K l) 0).head? = some 44 := by
          rw [rs0, c3']; intro w; exact (ckl_stp _ _).2 _ w rfl
        unfold adN adE adK
        rw [if_neg hh, if_neg hh, if_neg hh]
        exact of_put c3' ha.1 ha.2 (stp_cons _ (by decide))
    obtain ⟨d1, d2, d3⟩ := ad
    have k6 : p4E l = 0 := by unfold p4E; rw [k5]; exact d2
    have K4 : p4K l = adK l (p3K l) 0 := by unfold p4K; rw [k5]
    rw [← K4] at d3
    obtain ⟨f1, f2, f3⟩ := ch_put d3 hB (stp_cons _ rfl)
    have k7 : p5E l = 0 := by unfold p5E; rw [k6]; exact f2
    have K5 : p5K l = chK l (p4K l) 0 := by unfold p5K; rw [k6]
    rw [← K5] at f3
    obtain ⟨g1, g2, g3⟩ := ch_put f3 hE (stp_nil _)
    have k8 : p6E l = 0 := by unfold p6E; rw [k7]; exact g2
    have K6 : p6K l = chK l (p5K l) 0 := by unfold p6K; rw [k7]
    rw [← K6] at g3
    have v : plV l = p := by
      unfold plV; rw [if_neg k4, a1, k2, c1, k3, k5, d1, k6, f1, k7, g1]
    have e : enE l (plK l) (plF l) = 0 := by
      unfold plK plF; rw [if_neg k4, if_neg k4, k8]
      exact drop_end g3
    have z : psE l = 0 := by unfold psE; rw [if_pos e, v]; exact h
    exact ⟨z, by unfold psV; rw [if_pos z]; exact v⟩
theorem ps_bad {l : List UInt8} (h : psE l ≠ 0) : psV l = pl0 := if_neg h
/-- The fixed text. -/
def aP : Pl := ⟨[69, 83, 84], [69, 68, 84], -18000, -14400, ⟨3, 3, 2, 0, 7200⟩, ⟨3, 11, 1, 0, 7200⟩⟩
def aL : List UInt8 := [69, 83, 84, 53, 69, 68, 84, 44, 77, 51, 46, 50, 46, 48, 44, 77, 49, 49, 46, 49, 46, 48]
theorem ps_alive : psE aL = 0 ∧ psV aL = aP := by
  have h : plE aP = 0 := by decide
  have e : plL aP = aL := by decide +kernel
  rw [← e]; exact ps_put h
end Go.Proofs.Ytkhcneacjnpcnaa
