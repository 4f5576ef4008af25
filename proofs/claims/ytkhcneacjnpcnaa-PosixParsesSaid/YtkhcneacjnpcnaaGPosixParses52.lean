/- Merged: PosU. -/
import Derived.Test.YtkhcneacjnpcnaaGPosixParses14
namespace Go.Proofs.Ytkhcneacjnpcnaa
open Go.RowKit
set_option linter.unusedVariables false
set_option linter.unusedSimpArgs false

theorem na_two (l : List UInt8) (k : Nat) : naE l k 0 = 0 ∨ naE l k 0 = 2 := by
  have hF : naF l k 0 = 0 ∨ naF l k 0 = 2 := by
    unfold naF; split
    · unfold mcE; split
      · exact .inl rfl
      · exact .inr rfl
    · exact .inl rfl
  unfold naE; split
  · exact hF
  · rcases hF with h | h <;> rw [h] <;> exact .inr rfl
theorem na_nm {l : List UInt8} {k : Nat} (h : naE l k 0 = 0) : nmP (naS l k 0) = true := by
  unfold naE at h
  split at h
  · assumption
  · have hF : naF l k 0 = 0 ∨ naF l k 0 = 2 := by
      unfold naF; split
      · unfold mcE; split
        · exact .inl rfl
        · exact .inr rfl
      · exact .inl rfl
    rcases hF with c | c <;> rw [c] at h <;> cases h
theorem fin_bad {l : List UInt8} {f : Int} (h : plF l = f) (hf : f ≠ 0) : psE l = f ∧ psV l = pl0 := by
  have e : enE l (plK l) (plF l) = f := by rw [h]; exact enE_bad hf
  have z : psE l = f := by unfold psE; rw [if_neg (by rw [e]; exact hf), e]
  exact ⟨z, ps_bad (by rw [z]; exact hf)⟩
theorem early {l : List UInt8} (h : p2E l ≠ 0) : plF l = p2E l := by
  unfold plF; rw [if_pos (rs_bad _ _ h)]
theorem late {l : List UInt8} (h : p2E l = 0) (h2 : l.drop (p2K l) ≠ []) : plF l = p6E l ∧ plK l = p6K l ∧
    plV l = ⟨naS l 0 0, naS l (p2K l) (p2E l), p2O l, adN l (p3K l) (p3E l) (p2O l), chV l (p4K l) (p4E l), chV l (p5K l) (p5E l)⟩ := by
  have n : ¬ rs l (p2K l) (p2E l) = [] := by rw [h, rs0]; exact h2
  unfold plF plK plV; rw [if_neg n, if_neg n, if_neg n]; exact ⟨rfl, rfl, rfl⟩
theorem p6_3 {l : List UInt8} (h : p3E l ≠ 0) : p6E l = p3E l := by
  have h4 : p4E l = p3E l := adE_bad _ _ h
  have h5 : p5E l = p3E l := by unfold p5E; rw [h4]; exact chE_bad _ _ h
  unfold p6E; rw [h5]; exact chE_bad _ _ h
theorem p6_4 {l : List UInt8} (h : p4E l ≠ 0) : p6E l = p4E l := by
  have h5 : p5E l = p4E l := chE_bad _ _ h
  unfold p6E; rw [h5]; exact chE_bad _ _ h
theorem p6_5 {l : List UInt8} (h : p5E l ≠ 0) : p6E l = p5E l := chE_bad _ _ h
theorem flE_two (b : Int) : flE 2 b = 2 := rfl
/-- A comma that lacks. -/
theorem ch_lack {l : List UInt8} {k : Nat} (h : ¬ (l.drop k).head? = some 44) : chE l k 0 = 2 := by
  have m : mcE 44 l k 0 = 2 := by unfold mcE; rw [rs0, if_neg h]; rfl
  unfold chE; rw [m]; split
  · rfl
  · exact flE_two _
/-- A comma, and what stands behind it. -/
theorem ch_there {l : List UInt8} {k : Nat} (h : (l.drop k).head? = some 44) : mcK 44 l k 0 = k + 1 ∧ chS l k 0 = qb 44 (l.drop (k + 1)) ∧ chK l k 0 = k + 1 + (qb 44 (l.drop (k + 1))).length ∧ chE l k 0 = rpE (chS l k 0) := by
  have h' : (rs l k 0).head? = some 44 := by rw [rs0]; exact h
  have e1 : mcK 44 l k 0 = k + 1 := if_pos h'
  have e2 : mcE 44 l k 0 = 0 := if_pos h'
  have e3 : chS l k 0 = qb 44 (l.drop (k + 1)) := by unfold chS; rw [e1, e2, rs0]
  refine ⟨e1, e3, ?_, ?_⟩
  · unfold chK; rw [e1, e3]
  · unfold chE; rw [e2]; split
    · next c => exact c.symm
    · rfl
/-- An offset. -/
theorem of_there (l : List UInt8) (k : Nat) : ofS l k 0 = (l.drop k).takeWhile clB ∧ ofK l k 0 = k + ((l.drop k).takeWhile clB).length ∧ ofE l k 0 = pcE (ofS l k 0) 24 := by
  have e : ofS l k 0 = (l.drop k).takeWhile clB := by unfold ofS; rw [rs0]
  refine ⟨e, by unfold ofK; rw [e], ?_⟩
  unfold ofE; split
  · next c => exact c.symm
  · rfl
theorem ad_usual {l : List UInt8} {k : Nat} (o : Int) (h : (l.drop k).head? = some 44) : adN l k 0 o = o + 3600 ∧ adK l k 0 = k ∧ adE l k 0 = 0 := by
  have h' : (rs l k 0).head? = some 44 := by rw [rs0]; exact h
  unfold adN adK adE; rw [if_pos h', if_pos h', if_pos h']; exact ⟨rfl, rfl, rfl⟩
theorem ad_told {l : List UInt8} {k : Nat} (o : Int) (h : ¬ (l.drop k).head? = some 44) : adN l k 0 o = ofN l k 0 ∧ adK l k 0 = ofK l k 0 ∧ adE l k 0 = ofE l k 0 := by
  have h' : ¬ (rs l k 0).head? = some 44 := by rw [rs0]; exact h
  unfold adN adK adE; rw [if_neg h', if_neg h', if_neg h']; exact ⟨rfl, rfl, rfl⟩

/-! by the first fault -/
theorem way_a {l : List UInt8} (h : naE l 0 0 ≠ 0) : psE l = 2 ∧ psV l = pl0 := by
  have e : naE l 0 0 = 2 := (na_two l 0).resolve_left h
  have e2 : p2E l = 2 := by
    have : p1E l = 2 := e
    unfold p2E; rw [this]; exact ofE_bad _ _ (by decide)
  exact fin_bad ((early (by rw [e2]; decide)).trans e2) (by decide)
theorem at_2 {l : List UInt8} (h : naE l 0 0 = 0) : p2E l = ofE l (naK l 0 0) 0 ∧ p2K l = ofK l (naK l 0 0) 0 ∧ p2O l = ofN l (naK l 0 0) 0 := by
  have e : p1E l = 0 := h
  refine ⟨?_, ?_, ?_⟩
  · unfold p2E; rw [e]; rfl
  · unfold p2K; rw [e]; rfl
  · unfold p2O; rw [e]; rfl
theorem way_b {l : List UInt8} {b : Int} (h : naE l 0 0 = 0) (hb : ofE l (naK l 0 0) 0 = b) (b0 : b ≠ 0) : psE l = b ∧ psV l = pl0 := by
  have e := (at_2 h).1
  exact fin_bad ((early (by rw [e, hb]; exact b0)).trans (e.trans hb)) b0
theorem ofP_n (l : List UInt8) (k : Nat) (e : Int) : ofP (ofN l k e) = true := ofP_yes.2 (ofN_bd l k e)
theorem way_c {l : List UInt8} (h : naE l 0 0 = 0) (hb : ofE l (naK l 0 0) 0 = 0) (hk : ofK l (naK l 0 0) 0 = l.length) :
    psE l = 0 ∧ psV l = ⟨naS l 0 0, [], ofN l (naK l 0 0) 0, 0, ru0, ru0⟩ := by
  obtain ⟨e1, e2, e3⟩ := at_2 h
  rw [hb] at e1; rw [hk] at e2
  have n : rs l (p2K l) (p2E l) = [] := by rw [e1, e2, rs0]; exact List.drop_eq_nil_of_le (Nat.le_refl _)
  have v : plV l = ⟨naS l 0 0, [], ofN l (naK l 0 0) 0, 0, ru0, ru0⟩ := by unfold plV; rw [if_pos n, e3]
  have f : enE l (plK l) (plF l) = 0 := by
    unfold plK plF; rw [if_pos n, if_pos n, e1, e2]
    exact enE16_nil (List.drop_eq_nil_of_le (Nat.le_refl _))
  have p : plE (plV l) = 0 := by
    rw [v]
    unfold plE
    rw [if_pos ⟨na_nm h, by unfold smP; rw [if_pos rfl]; exact ⟨rfl, (show ruZ ru0 by decide), (show ruZ ru0 by decide)⟩⟩, if_pos ⟨ofP_n _ _ _, (show ofP 0 = true by decide)⟩, if_pos rfl]
  have z : psE l = 0 := by unfold psE; rw [if_pos f]; exact p
  exact ⟨z, by unfold psV; rw [if_pos z]; exact v⟩
/-- The state behind the second name. -/
structure Go2 (l : List UInt8) (k2 k3 : Nat) (o : Int) : Prop where
  n1 : naE l 0 0 = 0
  e2 : p2E l = 0
  k2e : p2K l = k2
  lt : k2 < l.length
  o2 : p2O l = o
  n3 : naE l k2 0 = 0
  k3e : naK l k2 0 = k3
theorem at_3 {l : List UInt8} (h : naE l 0 0 = 0) (hb : ofE l (naK l 0 0) 0 = 0) (hk : ofK l (naK l 0 0) 0 < l.length) :
    p2E l = 0 ∧ l.drop (p2K l) ≠ [] ∧ p3E l = naE l (ofK l (naK l 0 0) 0) 0 ∧ p3K l = naK l (ofK l (naK l 0 0) 0) 0 := by
  obtain ⟨e1, e2, e3⟩ := at_2 h
  rw [hb] at e1
  refine ⟨e1, ?_, ?_, ?_⟩
  · rw [e2]; intro c; have := List.drop_eq_nil_iff.1 c; omega
  · unfold p3E; rw [e1, e2]
  · unfold p3K; rw [e1, e2]
theorem way_d {l : List UInt8} (h : naE l 0 0 = 0) (hb : ofE l (naK l 0 0) 0 = 0) (hk : ofK l (naK l 0 0) 0 < l.length) (h3 : naE l (ofK l (naK l 0 0) 0) 0 ≠ 0) : psE l = 2 ∧ psV l = pl0 := by
  obtain ⟨e1, e2, e3, -⟩ := at_3 h hb hk
  have t : p3E l = 2 := e3.trans ((na_two l _).resolve_left h3)
  exact fin_bad ((late e1 e2).1.trans ((p6_3 (by rw [t]; decide)).trans t)) (by decide)
theorem go_3 {l : List UInt8} (h : naE l 0 0 = 0) (hb : ofE l (naK l 0 0) 0 = 0) (hk : ofK l (naK l 0 0) 0 < l.length) (h3 : naE l (ofK l (naK l 0 0) 0) 0 = 0) :
    Go2 l (ofK l (naK l 0 0) 0) (naK l (ofK l (naK l 0 0) 0) 0) (ofN l (naK l 0 0) 0) :=
  ⟨h, by rw [(at_2 h).1, hb], (at_2 h).2.1, hk, (at_2 h).2.2, h3, rfl⟩
theorem Go2.p3 {l : List UInt8} {k2 k3 : Nat} {o : Int} (g : Go2 l k2 k3 o) : l.drop (p2K l) ≠ [] ∧ p3E l = 0 ∧ p3K l = k3 := by
  refine ⟨?_, ?_, ?_⟩
  · rw [g.k2e]; intro c; have := List.drop_eq_nil_iff.1 c; have := g.lt; omega
  · unfold p3E; rw [g.e2, g.k2e]; exact g.n3
  · unfold p3K; rw [g.e2, g.k2e]; exact g.k3e
/-- The state behind the other time's offset. -/
structure Go4 (l : List UInt8) (k2 k4 : Nat) (o a : Int) : Prop where
  n1 : naE l 0 0 = 0
  e2 : p2E l = 0
  ne : l.drop (p2K l) ≠ []
  k2e : p2K l = k2
  o2 : p2O l = o
  n3 : naE l k2 0 = 0
  e4 : p4E l = 0
  k4e : p4K l = k4
  a4 : adN l (p3K l) (p3E l) (p2O l) = a
theorem Go2.usual {l : List UInt8} {k2 k3 : Nat} {o : Int} (g : Go2 l k2 k3 o) (h : (l.drop k3).head? = some 44) : Go4 l k2 k3 o (o + 3600) := by
  obtain ⟨p1, p2, p3⟩ := g.p3
  obtain ⟨a1, a2, a3⟩ := ad_usual (p2O l) h
  exact ⟨g.n1, g.e2, p1, g.k2e, g.o2, g.n3, by unfold p4E; rw [p2, p3]; exact a3, by unfold p4K; rw [p2, p3]; exact a2, by rw [p2, p3, a1, g.o2]⟩
theorem Go2.told {l : List UInt8} {k2 k3 : Nat} {o : Int} (g : Go2 l k2 k3 o) (h : ¬ (l.drop k3).head? = some 44) (hb : ofE l k3 0 = 0) : Go4 l k2 (ofK l k3 0) o (ofN l k3 0) := by
  obtain ⟨p1, p2, p3⟩ := g.p3
  obtain ⟨a1, a2, a3⟩ := ad_told (p2O l) h
  exact ⟨g.n1, g.e2, p1, g.k2e, g.o2, g.n3, by unfold p4E; rw [p2, p3]; exact a3.trans hb, by unfold p4K; rw [p2, p3]; exact a2, by rw [p2, p3, a1]⟩
theorem way_e {l : List UInt8} {k2 k3 : Nat} {o b : Int} (g : Go2 l k2 k3 o) (h : ¬ (l.drop k3).head? = some 44) (hb : ofE l k3 0 = b) (b0 : b ≠ 0) : psE l = b ∧ psV l = pl0 := by
  obtain ⟨p1, p2, p3⟩ := g.p3
  obtain ⟨a1, a2, a3⟩ := ad_told (p2O l) h
  have t : p4E l = b := by unfold p4E; rw [p2, p3, a3]; exact hb
  exact fin_bad ((late g.e2 p1).1.trans ((p6_4 (by rw [t]; exact b0)).trans t)) b0
theorem way_f {l : List UInt8} {k2 k4 : Nat} {o a : Int} (g : Go4 l k2 k4 o a) (h : ¬ (l.drop k4).head? = some 44) : psE l = 2 ∧ psV l = pl0 := by
  have t : p5E l = 2 := by unfold p5E; rw [g.e4, g.k4e]; exact ch_lack h
  exact fin_bad ((late g.e2 g.ne).1.trans ((p6_5 (by rw [t]; decide)).trans t)) (by decide)
theorem way_g {l : List UInt8} {k2 k4 : Nat} {o a : Int} (g : Go4 l k2 k4 o a) (h : (l.drop k4).head? = some 44) (hr : rpE (chS l k4 0) ≠ 0) : psE l = rpE (chS l k4 0) ∧ psV l = pl0 := by
  have t : p5E l = rpE (chS l k4 0) := by unfold p5E; rw [g.e4, g.k4e]; exact (ch_there h).2.2.2
  exact fin_bad ((late g.e2 g.ne).1.trans ((p6_5 (by rw [t]; exact hr)).trans t)) hr
theorem Go4.p5 {l : List UInt8} {k2 k4 : Nat} {o a : Int} (g : Go4 l k2 k4 o a) (h : (l.drop k4).head? = some 44) (hr : rpE (chS l k4 0) = 0) : p5E l = 0 ∧ p5K l = chK l k4 0 := by
  refine ⟨?_, ?_⟩
  · unfold p5E; rw [g.e4, g.k4e]; exact (ch_there h).2.2.2.trans hr
  · unfold p5K; rw [g.e4, g.k4e]
theorem way_h {l : List UInt8} {k2 k4 : Nat} {o a : Int} (g : Go4 l k2 k4 o a) (h : (l.drop k4).head? = some 44) (hr : rpE (chS l k4 0) = 0) (h5 : ¬ (l.drop (chK l k4 0)).head? = some 44) : psE l = 2 ∧ psV l = pl0 := by
  obtain ⟨a1, a2⟩ := g.p5 h hr
  have t : p6E l = 2 := by unfold p6E; rw [a1, a2]; exact ch_lack h5
  exact fin_bad ((late g.e2 g.ne).1.trans t) (by decide)
theorem way_i {l : List UInt8} {k2 k4 k5 : Nat} {o a : Int} (g : Go4 l k2 k4 o a) (h : (l.drop k4).head? = some 44) (hr : rpE (chS l k4 0) = 0) (hk : chK l k4 0 = k5) (h5 : (l.drop k5).head? = some 44) (hr2 : rpE (chS l k5 0) ≠ 0) : psE l = rpE (chS l k5 0) ∧ psV l = pl0 := by
  obtain ⟨a1, a2⟩ := g.p5 h hr
  have t : p6E l = rpE (chS l k5 0) := by unfold p6E; rw [a1, a2, hk]; exact (ch_there h5).2.2.2
  exact fin_bad ((late g.e2 g.ne).1.trans t) hr2
theorem way_l {l : List UInt8} {k2 k4 k5 k6 : Nat} {o a : Int} (g : Go4 l k2 k4 o a) (h : (l.drop k4).head? = some 44) (hr : rpE (chS l k4 0) = 0) (hk : chK l k4 0 = k5) (h5 : (l.drop k5).head? = some 44) (hr2 : rpE (chS l k5 0) = 0) (hk6 : chK l k5 0 = k6)
    (ha : -89999 ≤ a) (ho : o = ofN l (p1K l) (p1E l)) :
    (k6 < l.length → psE l = 2 ∧ psV l = pl0) ∧ (k6 = l.length → 89999 < a → psE l = 1 ∧ psV l = pl0) ∧ (k6 = l.length → ¬ 89999 < a → psE l = 0 ∧ psV l = ⟨naS l 0 0, naS l k2 0, o, a, rpV (chS l k4 0), rpV (chS l k5 0)⟩) := by
  obtain ⟨a1, a2⟩ := g.p5 h hr
  have t : p6E l = 0 := by unfold p6E; rw [a1, a2, hk]; exact (ch_there h5).2.2.2.trans hr2
  have t2 : p6K l = k6 := by unfold p6K; rw [a1, a2, hk]; exact hk6
  obtain ⟨f1, f2, f3⟩ := late g.e2 g.ne
  have v : plV l = ⟨naS l 0 0, naS l k2 0, o, a, rpV (chS l k4 0), rpV (chS l k5 0)⟩ := by
    rw [f3, g.e2, g.k2e, g.a4, g.o2, g.e4, g.k4e, a1, a2, hk]; rfl
  have m2 := na_nm g.n3
  have b2 := nmP_bd m2
  have sn : naS l k2 0 ≠ [] := by intro c; rw [c] at b2; simp at b2
  have p : plE (plV l) = if 89999 < a then 1 else 0 := by
    rw [v]; unfold plE
    rw [if_pos ⟨na_nm g.n1, by unfold smP; rw [if_neg sn]; exact m2⟩]
    by_cases c : 89999 < a
    · rw [if_neg (fun d => by have : -89999 ≤ a ∧ a ≤ 89999 := ofP_yes.1 d.2; omega), if_pos c]
    · rw [if_pos ⟨by rw [ho]; exact ofP_n _ _ _, (show ofP a = true from ofP_yes.2 (by omega))⟩, if_neg sn, rp_good hr, if_neg (fun d => d rfl), rp_good hr2, if_neg c]
  refine ⟨fun c => ?_, fun c d => ?_, fun c d => ?_⟩
  · have e : enE l (plK l) (plF l) = 2 := by rw [f1, f2, t, t2]; unfold enE; rw [if_pos ⟨rfl, c⟩]
    have z : psE l = 2 := by unfold psE; rw [if_neg (by rw [e]; decide), e]
    exact ⟨z, ps_bad (by rw [z]; decide)⟩
  · have e : enE l (plK l) (plF l) = 0 := by rw [f1, f2, t, t2]; unfold enE; rw [if_neg (by omega)]
    have z : psE l = 1 := by unfold psE; rw [if_pos e, p, if_pos d]
    exact ⟨z, ps_bad (by rw [z]; decide)⟩
  · have e : enE l (plK l) (plF l) = 0 := by rw [f1, f2, t, t2]; unfold enE; rw [if_neg (by omega)]
    have z : psE l = 0 := by unfold psE; rw [if_pos e, p, if_neg d]
    exact ⟨z, by unfold psV; rw [if_pos z]; exact v⟩
end Go.Proofs.Ytkhcneacjnpcnaa
