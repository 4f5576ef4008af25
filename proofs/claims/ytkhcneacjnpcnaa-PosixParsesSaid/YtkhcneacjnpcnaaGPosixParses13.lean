/- Merged: PosM. -/
import Derived.Test.YtkhcneacjnpcnaaGPosixParses12
namespace Go.Proofs.Ytkhcneacjnpcnaa
open Go.RowKit
set_option linter.unusedVariables false
set_option linter.unusedSimpArgs false

/-! ### names and plans -/
/-- Is it a letter? a name's byte? a clock time's byte? -/
def ltB (b : UInt8) : Bool := (decide (65 ≤ (b.toNat : Int)) && decide ((b.toNat : Int) ≤ 90)) || (decide (97 ≤ (b.toNat : Int)) && decide ((b.toNat : Int) ≤ 122))
def nmB (b : UInt8) : Bool := ltB b || (isd b || (b == 43 || b == 45))
def clB (b : UInt8) : Bool := isd b || (b == 43 || (b == 45 || b == 58))
/-- Is it a name? -/
def nmP (l : List UInt8) : Bool := decide (3 ≤ l.length) && (decide (l.length ≤ 16) && l.all nmB)
structure Pl where
  N : List UInt8
  S : List UInt8
  O : Int
  A : Int
  B : Ru
  E : Ru
def pl0 : Pl := ⟨[], [], 0, 0, ru0, ru0⟩
def Pl.cells (p : Pl) : Array Value := #[.string ⟨p.N.toArray⟩, .string ⟨p.S.toArray⟩, .int .i64 p.O, .int .i64 p.A,
  .int .i64 p.B.K, .int .i64 p.B.M, .int .i64 p.B.W, .int .i64 p.B.D, .int .i64 p.B.T, .int .i64 p.E.K, .int .i64 p.E.M, .int .i64 p.E.W, .int .i64 p.E.D, .int .i64 p.E.T]
/-- Is an offset in range? -/
def ofP (n : Int) : Bool := decide (-89999 ≤ n) && decide (n ≤ 89999)
theorem ofP_yes {n : Int} : ofP n = true ↔ -89999 ≤ n ∧ n ≤ 89999 := by unfold ofP; simp
def ruZ (r : Ru) : Prop := r.K = 0 ∧ r.M = 0 ∧ r.W = 0 ∧ r.D = 0 ∧ r.T = 0
instance (r : Ru) : Decidable (ruZ r) := by unfold ruZ; infer_instance
theorem ruZ_is {r : Ru} (h : ruZ r) : r = ru0 := by
  obtain ⟨a, b, c, d, e⟩ := r
  obtain ⟨h1, h2, h3, h4, h5⟩ := h
  dsimp at h1 h2 h3 h4 h5; subst h1; subst h2; subst h3; subst h4; subst h5; rfl
/-- Is the other time told as it must be? -/
def smP (p : Pl) : Prop := if p.S = [] then p.A = 0 ∧ ruZ p.B ∧ ruZ p.E else nmP p.S = true
instance (p : Pl) : Decidable (smP p) := by unfold smP; infer_instance
/-- Check's error. -/
def plE (p : Pl) : Int :=
  if nmP p.N = true ∧ smP p then
    (if ofP p.O = true ∧ ofP p.A = true then (if p.S = [] then 0 else if ruE p.B ≠ 0 then ruE p.B else ruE p.E) else 1)
  else 2
theorem plE_bd (p : Pl) : 0 ≤ plE p ∧ plE p < 100 := by
  have a := ruE_bd p.B; have b := ruE_bd p.E
  unfold plE; split
  · split
    · split
      · decide
      · split <;> assumption
    · decide
  · decide
theorem plE_zero {p : Pl} (h : plE p = 0) : nmP p.N = true ∧ (-89999 ≤ p.O ∧ p.O ≤ 89999) ∧ (-89999 ≤ p.A ∧ p.A ≤ 89999) ∧
    ((p.S = [] ∧ p.A = 0 ∧ p.B = ru0 ∧ p.E = ru0) ∨ (p.S ≠ [] ∧ nmP p.S = true ∧ ruE p.B = 0 ∧ ruE p.E = 0)) := by
  unfold plE at h
  split at h
  · next c =>
    split at h
    · next d =>
      refine ⟨c.1, ofP_yes.1 d.1, ofP_yes.1 d.2, ?_⟩
      have c2 := c.2
      unfold smP at c2
      split at h
      · next s => rw [if_pos s] at c2; exact .inl ⟨s, c2.1, ruZ_is c2.2.1, ruZ_is c2.2.2⟩
      · next s =>
        rw [if_neg s] at c2
        split at h
        · next q => exact absurd h q
        · next q => exact .inr ⟨s, c2, Decidable.not_not.1 q, h⟩
    · cases h
  · cases h
theorem nmP_bd {l : List UInt8} (h : nmP l = true) : 3 ≤ l.length ∧ l.length ≤ 16 ∧ ∀ b ∈ l, nmB b = true := by
  unfold nmP at h
  simp only [Bool.and_eq_true, decide_eq_true_eq, List.all_eq_true] at h
  exact ⟨h.1, h.2.1, h.2.2⟩

/-! ### the text -/
/-- A name's text; an offset's, where it is told; a plan's. -/
def nmL (l : List UInt8) : List UInt8 := if l.all ltB = true then l else 60 :: (l ++ [62])
def adL (p : Pl) : List UInt8 := if p.A = p.O + 3600 then [] else ckL (-p.A)
def plL (p : Pl) : List UInt8 := if p.S = [] then nmL p.N ++ ckL (-p.O) else nmL p.N ++ (ckL (-p.O) ++ (nmL p.S ++ (adL p ++ (44 :: (ruL p.B ++ (44 :: ruL p.E))))))

/-! ### what a scanner takes -/
def mcK (c : UInt8) (l : List UInt8) (k : Nat) (e : Int) : Nat := if (rs l k e).head? = some c then k + 1 else k
def mcE (c : UInt8) (l : List UInt8) (k : Nat) (e : Int) : Int := if (rs l k e).head? = some c then e else flE e 2
/-- A name: what it is, the place and the error behind it. -/
def naS (l : List UInt8) (k : Nat) (e : Int) : List UInt8 := if (rs l k e).head? = some 60 then qb 62 (rs l (k + 1) e) else (rs l k e).takeWhile ltB
def naK (l : List UInt8) (k : Nat) (e : Int) : Nat := if (rs l k e).head? = some 60 then mcK 62 l (k + 1 + (qb 62 (rs l (k + 1) e)).length) e else k + ((rs l k e).takeWhile ltB).length
def naF (l : List UInt8) (k : Nat) (e : Int) : Int := if (rs l k e).head? = some 60 then mcE 62 l (k + 1 + (qb 62 (rs l (k + 1) e)).length) e else e
def naE (l : List UInt8) (k : Nat) (e : Int) : Int := if nmP (naS l k e) = true then naF l k e else flE (naF l k e) 2
/-- An offset. -/
def ofS (l : List UInt8) (k : Nat) (e : Int) : List UInt8 := (rs l k e).takeWhile clB
def ofK (l : List UInt8) (k : Nat) (e : Int) : Nat := k + (ofS l k e).length
def ofN (l : List UInt8) (k : Nat) (e : Int) : Int := -pcN (ofS l k e) 24
def ofE (l : List UInt8) (k : Nat) (e : Int) : Int := if pcE (ofS l k e) 24 = 0 then e else flE e (pcE (ofS l k e) 24)
/-- The other time's offset. -/
def adN (l : List UInt8) (k : Nat) (e o : Int) : Int := if (rs l k e).head? = some 44 then o + 3600 else ofN l k e
def adK (l : List UInt8) (k : Nat) (e : Int) : Nat := if (rs l k e).head? = some 44 then k else ofK l k e
def adE (l : List UInt8) (k : Nat) (e : Int) : Int := if (rs l k e).head? = some 44 then e else ofE l k e
/-- A comma and a rule. -/
def chS (l : List UInt8) (k : Nat) (e : Int) : List UInt8 := qb 44 (rs l (mcK 44 l k e) (mcE 44 l k e))
def chK (l : List UInt8) (k : Nat) (e : Int) : Nat := mcK 44 l k e + (chS l k e).length
def chV (l : List UInt8) (k : Nat) (e : Int) : Ru := rpV (chS l k e)
def chE (l : List UInt8) (k : Nat) (e : Int) : Int := if rpE (chS l k e) = 0 then mcE 44 l k e else flE (mcE 44 l k e) (rpE (chS l k e))
/-- All of it, part by part. -/
def p1K (l : List UInt8) : Nat := naK l 0 0
def p1E (l : List UInt8) : Int := naE l 0 0
def p2K (l : List UInt8) : Nat := ofK l (p1K l) (p1E l)
def p2E (l : List UInt8) : Int := ofE l (p1K l) (p1E l)
def p3K (l : List UInt8) : Nat := naK l (p2K l) (p2E l)
def p3E (l : List UInt8) : Int := naE l (p2K l) (p2E l)
def p4K (l : List UInt8) : Nat := adK l (p3K l) (p3E l)
def p4E (l : List UInt8) : Int := adE l (p3K l) (p3E l)
def p5K (l : List UInt8) : Nat := chK l (p4K l) (p4E l)
def p5E (l : List UInt8) : Int := chE l (p4K l) (p4E l)
def p6K (l : List UInt8) : Nat := chK l (p5K l) (p5E l)
def p6E (l : List UInt8) : Int := chE l (p5K l) (p5E l)
def p2O (l : List UInt8) : Int := ofN l (p1K l) (p1E l)
def plV (l : List UInt8) : Pl := if rs l (p2K l) (p2E l) = [] then ⟨naS l 0 0, [], p2O l, 0, ru0, ru0⟩
  else ⟨naS l 0 0, naS l (p2K l) (p2E l), p2O l, adN l (p3K l) (p3E l) (p2O l), chV l (p4K l) (p4E l), chV l (p5K l) (p5E l)⟩
def plK (l : List UInt8) : Nat := if rs l (p2K l) (p2E l) = [] then p2K l else p6K l
def plF (l : List UInt8) : Int := if rs l (p2K l) (p2E l) = [] then p2E l else p6E l
/-- Parse's error and answer. -/
def psE (l : List UInt8) : Int := if enE l (plK l) (plF l) = 0 then plE (plV l) else enE l (plK l) (plF l)
def psV (l : List UInt8) : Pl := if psE l = 0 then plV l else pl0

/-! ### places -/
theorem twl_len (p : UInt8 → Bool) : ∀ l : List UInt8, (l.takeWhile p).length ≤ l.length
  | [] => Nat.le_refl _
  | b :: l => by
    have := twl_len p l
    rw [List.takeWhile_cons]; split <;> simp <;> omega
theorem twl_rs (p : UInt8 → Bool) (l : List UInt8) {k : Nat} (e : Int) (h : k ≤ l.length) : k + ((rs l k e).takeWhile p).length ≤ l.length := by
  have a := twl_len p (rs l k e); have b := rs_le l k e; omega
theorem mcK_le (c : UInt8) (l : List UInt8) {k : Nat} (e : Int) (h : k ≤ l.length) : mcK c l k e ≤ l.length := by
  unfold mcK; split
  · next c => exact head16 c
  · exact h
theorem naK_le (l : List UInt8) {k : Nat} (e : Int) (h : k ≤ l.length) : naK l k e ≤ l.length := by
  unfold naK; split
  · next c => exact mcK_le _ _ _ (twl_rs _ _ _ (head16 c))
  · exact twl_rs _ _ _ h
theorem ofK_le (l : List UInt8) {k : Nat} (e : Int) (h : k ≤ l.length) : ofK l k e ≤ l.length := twl_rs _ _ _ h
theorem adK_le (l : List UInt8) {k : Nat} (e : Int) (h : k ≤ l.length) : adK l k e ≤ l.length := by
  unfold adK; split
  · exact h
  · exact ofK_le l e h
theorem chK_le (l : List UInt8) {k : Nat} (e : Int) (h : k ≤ l.length) : chK l k e ≤ l.length := twl_rs _ _ _ (mcK_le _ _ _ h)
theorem p_le (l : List UInt8) : p1K l ≤ l.length ∧ p2K l ≤ l.length ∧ p3K l ≤ l.length ∧ p4K l ≤ l.length ∧ p5K l ≤ l.length ∧ p6K l ≤ l.length ∧ plK l ≤ l.length := by
  have h1 : p1K l ≤ l.length := naK_le l 0 (Nat.zero_le _)
  have h2 : p2K l ≤ l.length := ofK_le l _ h1
  have h3 : p3K l ≤ l.length := naK_le l _ h2
  have h4 : p4K l ≤ l.length := adK_le l _ h3
  have h5 : p5K l ≤ l.length := chK_le l _ h4
  have h6 : p6K l ≤ l.length := chK_le l _ h5
  refine ⟨h1, h2, h3, h4, h5, h6, ?_⟩
  unfold plK; split <;> assumption
theorem naS_len (l : List UInt8) (k : Nat) (e : Int) : (naS l k e).length ≤ l.length := by
  unfold naS; split
  · have a := twl_len (· != 62) (rs l (k + 1) e); have b := rs_le l (k + 1) e; unfold qb; omega
  · have a := twl_len ltB (rs l k e); have b := rs_le l k e; omega
theorem clk_bd {l : List UInt8} (h : pcE l 24 = 0) : -89999 ≤ pcN l 24 ∧ pcN l 24 ≤ 89999 := by
  have hm : moP 24 := by decide
  cases c : ckP l with
  | none => rw [(pc_none hm c).1] at h; cases h
  | some q =>
    obtain ⟨n, a, m, s⟩ := q
    obtain ⟨e1, e2⟩ := pc_some hm c
    rw [e1] at h
    split at h
    · next f =>
      rw [e2, if_pos f]
      have b := ckF_yes.1 f
      have p : 0 ≤ a ∧ 0 ≤ m ∧ 0 ≤ s := by
        unfold ckP at c
        split at c
        · split at c
          · injection c with c; simp only [Prod.mk.injEq] at c; omega
          · cases c
        · split at c
          · injection c with c; simp only [Prod.mk.injEq] at c; omega
          · cases c
        · split at c
          · injection c with c; simp only [Prod.mk.injEq] at c; omega
          · cases c
        · cases c
      unfold ckT
      split <;> omega
    · cases h
theorem clk_all (l : List UInt8) : -89999 ≤ pcN l 24 ∧ pcN l 24 ≤ 89999 := by
  by_cases h : pcE l 24 = 0
  · exact clk_bd h
  · have hm : moP 24 := by decide
    cases c : ckP l with
    | none => rw [(pc_none hm c).2]; decide
    | some q =>
      obtain ⟨n, a, m, s⟩ := q
      obtain ⟨e1, e2⟩ := pc_some hm c
      rw [e1] at h
      rw [e2]
      split
      · next f => rw [if_pos f] at h; exact absurd rfl h
      · decide
theorem ofN_bd (l : List UInt8) (k : Nat) (e : Int) : -89999 ≤ ofN l k e ∧ ofN l k e ≤ 89999 := by
  have := clk_all (ofS l k e)
  unfold ofN; omega
theorem rp_good {l : List UInt8} (h : rpE l = 0) : ruE (rpV l) = 0 := by
  cases d : dyP (qb 47 l) with
  | none => rw [(rp_no1 d).1] at h; cases h
  | some a =>
    cases c : rpC l with
    | none => rw [(rp_no2 c).1] at h; cases h
    | some b =>
      obtain ⟨K, M, W, D⟩ := a
      obtain ⟨n, x, m, s⟩ := b
      obtain ⟨e1, e2⟩ := rp_some d c
      rw [e1] at h
      split at h
      · next f => rw [e2, if_pos ⟨f, h⟩]; exact h
      · cases h

/-! ### an error stays -/
theorem mcE_bad (c : UInt8) (l : List UInt8) (k : Nat) {e : Int} (h : e ≠ 0) : mcE c l k e = e := by
  unfold mcE; rw [rs_bad _ _ h, fl_bad _ h]; split <;> rfl
theorem ofE_bad (l : List UInt8) (k : Nat) {e : Int} (h : e ≠ 0) : ofE l k e = e := by
  unfold ofE; rw [fl_bad _ h]; split <;> rfl
theorem adE_bad (l : List UInt8) (k : Nat) {e : Int} (h : e ≠ 0) : adE l k e = e := by
  unfold adE; rw [ofE_bad _ _ h]; split <;> rfl
theorem chE_bad (l : List UInt8) (k : Nat) {e : Int} (h : e ≠ 0) : chE l k e = e := by
  unfold chE; rw [mcE_bad _ _ _ h, fl_bad _ h]; split <;> rfl
theorem enE_bad {l : List UInt8} {k : Nat} {e : Int} (h : e ≠ 0) : enE l k e = e := enE16_bad h
end Go.Proofs.Ytkhcneacjnpcnaa
