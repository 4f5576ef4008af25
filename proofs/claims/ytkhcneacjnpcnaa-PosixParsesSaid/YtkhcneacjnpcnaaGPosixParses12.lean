/- Merged: RulP. -/
import Derived.Test.YtkhcneacjnpcnaaGPosixParses11
namespace Go.Proofs.Ytkhcneacjnpcnaa
open Go.RowKit
set_option linter.unusedVariables false
set_option linter.unusedSimpArgs false

/-! ### a clock time's seconds -/
/-- Is no part too great? -/
def ckF (most h m s : Int) : Bool := decide (h ≤ most) && (decide (m ≤ 59) && decide (s ≤ 59))
/-- All its seconds. -/
def ckT (n : Bool) (h m s : Int) : Int := if n = true then -(3600 * h + 60 * m + s) else 3600 * h + 60 * m + s
theorem ckF_yes {most h m s : Int} : ckF most h m s = true ↔ h ≤ most ∧ m ≤ 59 ∧ s ≤ 59 := by unfold ckF; simp
/-- May there be so many hours? -/
def moP (most : Int) : Prop := 0 ≤ most ∧ most ≤ 999
instance (most : Int) : Decidable (moP most) := by unfold moP; infer_instance
/-- What ParseClock answers. -/
def pcE (l : List UInt8) (most : Int) : Int := if moP most then (match ckP l with | none => 2 | some (_, h, m, s) => if ckF most h m s = true then 0 else 1) else 1
def pcN (l : List UInt8) (most : Int) : Int := if moP most then (match ckP l with | none => 0 | some (n, h, m, s) => if ckF most h m s = true then ckT n h m s else 0) else 0
theorem pc_most {l : List UInt8} {most : Int} (h : ¬ moP most) : pcE l most = 1 ∧ pcN l most = 0 := ⟨if_neg h, if_neg h⟩
theorem pc_none {l : List UInt8} {most : Int} (h : moP most) (c : ckP l = none) : pcE l most = 2 ∧ pcN l most = 0 := by
  unfold pcE pcN; rw [if_pos h, if_pos h, c]; exact ⟨rfl, rfl⟩
theorem pc_some {l : List UInt8} {most : Int} {n : Bool} {h m s : Int} (hm : moP most) (c : ckP l = some (n, h, m, s)) : pcE l most = (if ckF most h m s = true then 0 else 1) ∧ pcN l most = if ckF most h m s = true then ckT n h m s else 0 := by
  unfold pcE pcN; rw [if_pos hm, if_pos hm, c]; exact ⟨rfl, rfl⟩
theorem pcE_bd (l : List UInt8) (most : Int) : 0 ≤ pcE l most ∧ pcE l most < 100 := by
  unfold pcE; split
  · split
    · decide
    · split <;> decide
  · decide

/-! ### a rule's text -/
/-- Its clock time: 2 o'clock if none is told. -/
def rpC (l : List UInt8) : Option (Bool × Int × Int × Int) := if (qb 47 l).length < l.length then ckP (l.drop ((qb 47 l).length + 1)) else some (false, 2, 0, 0)
/-- What Parse answers. -/
def rpE (l : List UInt8) : Int :=
  match dyP (qb 47 l), rpC l with
  | some (K, M, W, D), some (n, h, m, s) => if ckF 167 h m s = true then ruE ⟨K, M, W, D, ckT n h m s⟩ else 1
  | _, _ => 2
def rpV (l : List UInt8) : Ru :=
  match dyP (qb 47 l), rpC l with
  | some (K, M, W, D), some (n, h, m, s) => if ckF 167 h m s = true ∧ ruE ⟨K, M, W, D, ckT n h m s⟩ = 0 then ⟨K, M, W, D, ckT n h m s⟩ else ru0
  | _, _ => ru0
theorem rp_no1 {l : List UInt8} (h : dyP (qb 47 l) = none) : rpE l = 2 ∧ rpV l = ru0 := by
  unfold rpE rpV; rw [h]; exact ⟨rfl, rfl⟩
theorem rp_no2 {l : List UInt8} (h : rpC l = none) : rpE l = 2 ∧ rpV l = ru0 := by
  unfold rpE rpV; rw [h]
  cases dyP (qb 47 l) with
  | none => exact ⟨rfl, rfl⟩
  | some d => exact ⟨rfl, rfl⟩
theorem rp_some {l : List UInt8} {K M W D : Int} {n : Bool} {h m s : Int} (h1 : dyP (qb 47 l) = some (K, M, W, D)) (h2 : rpC l = some (n, h, m, s)) :
    rpE l = (if ckF 167 h m s = true then ruE ⟨K, M, W, D, ckT n h m s⟩ else 1) ∧ rpV l = if ckF 167 h m s = true ∧ ruE ⟨K, M, W, D, ckT n h m s⟩ = 0 then ⟨K, M, W, D, ckT n h m s⟩ else ru0 := by
  unfold rpE rpV; rw [h1, h2]; exact ⟨rfl, rfl⟩
theorem rpE_bd (l : List UInt8) : 0 ≤ rpE l ∧ rpE l < 100 := by
  unfold rpE; split
  · split
    · exact ruE_bd _
    · decide
  · decide

/-! ### what the program's Parse finds at the text's end -/
/-- The place and the error behind the day, and behind the time. -/
def slB (l : List UInt8) : Bool := (rs l (tdk l) (tde l)).head? == some 47
theorem sl_yes {l : List UInt8} (h : slB l = true) : tde l = 0 ∧ tdk l + 1 ≤ l.length := by
  unfold slB at h
  have h := beq_iff_eq.1 h
  exact ⟨(rs_at (e := tde l) (by intro c; rw [c] at h; cases h)).1, head16 h⟩
/-- With a slash: the answer by the clock time behind it. -/
theorem rp_slash {l : List UInt8} (h : slB l = true) :
    (enE l (cK3 l (tdk l + 1) (tde l)) (cE3 l (tdk l + 1) (tde l)) = 2 ∧ rpE l = 2 ∧ rpV l = ru0) ∨
    (enE l (cK3 l (tdk l + 1) (tde l)) (cE3 l (tdk l + 1) (tde l)) = 0 ∧ dyP (qb 47 l) = some ((tdR l).K, (tdR l).M, (tdR l).W, (tdR l).D) ∧
      rpC l = some (cNg l (tdk l + 1) (tde l), cH l (tdk l + 1) (tde l), cM l (tdk l + 1) (tde l), cS l (tdk l + 1) (tde l))) := by
  obtain ⟨h0, hlt⟩ := sl_yes h
  unfold slB at h
  rw [h0] at h ⊢
  have hh := beq_iff_eq.1 h
  rw [rs_zero] at hh
  rcases td_is l with ⟨a, b⟩ | ⟨a, b, x, t, d, hx⟩ | ⟨a, k, b⟩
  · rw [h0] at a; cases a
  · rw [d] at hh; injection hh with hh; exact absurd hh hx
  · have hr : rpC l = ckP (l.drop (tdk l + 1)) := by unfold rpC; rw [if_pos (by omega), k]
    rcases ck_is l (tdk l + 1) with ⟨c, e⟩ | ⟨c, e⟩
    · exact .inl ⟨e, rp_no2 (hr.trans c)⟩
    · exact .inr ⟨e, b, hr.trans c⟩
/-- With none. -/
theorem rp_plain {l : List UInt8} (h : slB l = false) :
    (enE l (tdk l) (tde l) = 2 ∧ rpE l = 2 ∧ rpV l = ru0) ∨
    (enE l (tdk l) (tde l) = 0 ∧ dyP (qb 47 l) = some ((tdR l).K, (tdR l).M, (tdR l).W, (tdR l).D) ∧ rpC l = some (false, 2, 0, 0)) := by
  rcases td_is l with ⟨a, b⟩ | ⟨a, b, x, t, d, hx⟩ | ⟨a, k, b⟩
  · exact .inl ⟨by rw [a]; exact enE16_bad (by decide), rp_no1 b⟩
  · exact .inl ⟨by rw [a]; exact enE16_more d, rp_no1 b⟩
  · unfold slB at h
    rw [a, k, rs_zero] at h
    rcases q_rest l with ⟨d, e⟩ | ⟨e, t, d⟩
    · refine .inr ⟨by rw [a, k]; exact enE16_nil d, b, ?_⟩
      unfold rpC; rw [if_neg (by omega)]
    · rw [d] at h; cases h

/-! ### what is put -/
/-- Figures of a number that isn't below 0, as many as asked at least. -/
theorem pt_is {n : Int} {k : Nat} (h : 0 ≤ n) (hk : k ≤ 20) : ptL n k = pad k (Lib.decDigits n.natAbs) := by
  unfold ptL; rw [if_neg (by omega), if_neg (by omega)]; simp
theorem pad_one (u : Nat) : pad 1 (Lib.decDigits u) = Lib.decDigits u := by
  have := dec_pos u
  unfold pad; rw [show 1 - (Lib.decDigits u).length = 0 by omega]; rfl
/-- The text of a clock time without its sign; with it. -/
def ckU (a : Nat) : List UInt8 := Lib.decDigits (a / 3600) ++ (if a % 3600 = 0 then [] else 58 :: pad 2 (Lib.decDigits (a / 60 % 60))) ++ (if a % 60 = 0 then [] else 58 :: pad 2 (Lib.decDigits (a % 60)))
def ckL (t : Int) : List UInt8 := if t < 0 then 45 :: ckU t.natAbs else ckU t.natAbs
/-- What PutClock answers. -/
def pkP (t most : Int) : Prop := moP most ∧ -(3600 * (most + 1)) < t ∧ t < 3600 * (most + 1)
instance (t most : Int) : Decidable (pkP t most) := by unfold pkP; infer_instance
theorem dec_ne {c : UInt8} (hc : isd c = false) (u : Nat) : ∀ b ∈ Lib.decDigits u, b ≠ c := fun b hb => isd_ne hc (dec_isd u b hb)
theorem pad_ne {c : UInt8} (hc : isd c = false) (k u : Nat) : ∀ b ∈ pad k (Lib.decDigits u), b ≠ c := fun b hb => isd_ne hc (pad_isd (dec_isd u) b hb)
theorem dec_first (u : Nat) : ∃ b r, Lib.decDigits u = b :: r ∧ isd b = true := by
  have h := dec_pos u
  cases hd : Lib.decDigits u with
  | nil => rw [hd] at h; simp at h
  | cons b r => exact ⟨b, r, rfl, dec_isd u b (by rw [hd]; simp)⟩
theorem two_fg {x : Nat} (h : x < 60) : fg 2 2 (pad 2 (Lib.decDigits x)) ∧ dv (pad 2 (Lib.decDigits x)) = x := by
  have a := dec_len (k := 2) (u := x) (by omega) (by omega)
  have b := pad_len 2 (Lib.decDigits x)
  exact ⟨fg_dec (pad_isd (dec_isd x)) (by omega) (by omega), by rw [dv_pad, dec_dv]⟩
theorem few_fg {x j : Nat} (hj : 1 ≤ j) (h : x < 10 ^ j) : fg 1 j (Lib.decDigits x) := fg_dec (dec_isd x) (dec_pos x) (dec_len hj h)
theorem cku_head (a : Nat) : ∃ b r, ckU a = b :: r ∧ isd b = true := by
  obtain ⟨b, r, h, hb⟩ := dec_first (a / 3600)
  exact ⟨b, _, by unfold ckU; rw [h]; rfl, hb⟩
theorem ckl_cb (t : Int) : cb (ckL t) = ckU t.natAbs ∧ ((ckL t).head? == some 45) = decide (t < 0) := by
  unfold ckL
  by_cases h : t < 0
  · rw [if_pos h, decide_eq_true h]; exact ⟨rfl, rfl⟩
  · rw [if_neg h, decide_eq_false h]
    obtain ⟨b, r, e, hb⟩ := cku_head t.natAbs
    rw [e]
    have h1 := isd_ne (c := 45) (by decide) hb
    have h2 := isd_ne (c := 43) (by decide) hb
    refine ⟨?_, by simpa using h1⟩
    unfold cb; rw [if_neg]
    rintro (c | c) <;> injection c with c
    · exact h1 c
    · exact h2 c
/-- What is put is a clock time. -/
theorem ck_put {t : Int} (h : t.natAbs < 3600000) : ckP (ckL t) = some (decide (t < 0), ((t.natAbs / 3600 : Nat) : Int), ((t.natAbs / 60 % 60 : Nat) : Int), ((t.natAbs % 60 : Nat) : Int)) := by
  obtain ⟨c1, c2⟩ := ckl_cb t
  unfold ckP
  rw [c1, c2]
  generalize t.natAbs = a at *
  generalize decide (t < 0) = n at *
  have f1 : fg 1 3 (Lib.decDigits (a / 3600)) := few_fg (by omega) (by omega)
  obtain ⟨f2, v2⟩ := two_fg (x := a / 60 % 60) (by omega)
  obtain ⟨f3, v3⟩ := two_fg (x := a % 60) (by omega)
  have n1 := dec_ne isd_58 (a / 3600)
  have n2 := pad_ne isd_58 2 (a / 60 % 60)
  have n3 := pad_ne isd_58 2 (a % 60)
  unfold ckU
  by_cases d1 : a % 3600 = 0
  · have d2 : a % 60 = 0 := by omega
    rw [if_pos d1, if_pos d2, List.append_nil, List.append_nil, spt_last 58 n1]
    show (if fg 1 3 _ then _ else _) = _
    rw [if_pos f1, dec_dv]
    congr 3
    rw [show a / 60 % 60 = 0 by omega, d2]; rfl
  · by_cases d2 : a % 60 = 0
    · rw [if_neg d1, if_pos d2, List.append_nil, spt_cut 58 _ n1, spt_last 58 n2]
      show (if fg 1 3 _ ∧ fg 2 2 _ then _ else _) = _
      rw [if_pos ⟨f1, f2⟩, dec_dv, v2, d2]; rfl
    · rw [if_neg d1, if_neg d2, List.append_assoc, List.cons_append, spt_cut 58 _ n1, spt_cut 58 _ n2, spt_last 58 n3]
      show (if fg 1 3 _ ∧ fg 2 2 _ ∧ fg 2 2 _ then _ else _) = _
      rw [if_pos ⟨f1, f2, f3⟩, dec_dv, v2, v3]
theorem ck_back {t most : Int} (h : pkP t most) : pcE (ckL t) most = 0 ∧ pcN (ckL t) most = t := by
  have hm := h.1
  obtain ⟨-, h1, h2⟩ := h
  have hb : t.natAbs < 3600000 := by unfold moP at hm; omega
  obtain ⟨e1, e2⟩ := pc_some hm (ck_put hb)
  have f : ckF most ((t.natAbs / 3600 : Nat) : Int) ((t.natAbs / 60 % 60 : Nat) : Int) ((t.natAbs % 60 : Nat) : Int) = true := by
    rw [ckF_yes]; omega
  rw [e1, e2, if_pos f, if_pos f]
  refine ⟨rfl, ?_⟩
  unfold ckT
  by_cases d : t < 0
  · rw [decide_eq_true d, if_pos rfl]; omega
  · rw [decide_eq_false d, if_neg (by decide)]; omega

/-- The text of a rule's day; of a rule. -/
def dyL (r : Ru) : List UInt8 := if r.K = 1 then [74] ++ ptL r.D 1 else if r.K = 2 then ptL r.D 1 else [77] ++ ptL r.M 1 ++ [46] ++ ptL r.W 1 ++ [46] ++ ptL r.D 1
def ruL (r : Ru) : List UInt8 := if r.T = 7200 then dyL r else dyL r ++ [47] ++ ckL r.T
theorem pt1 {n : Int} (h : 0 ≤ n) : ptL n 1 = Lib.decDigits n.natAbs := by
  have := pt_is (n := n) (k := 1) h (by omega)
  rw [pad_one] at this
  exact this
theorem app_ne {c : UInt8} {a b : List UInt8} (h1 : ∀ x ∈ a, x ≠ c) (h2 : ∀ x ∈ b, x ≠ c) : ∀ x ∈ a ++ b, x ≠ c := by
  intro x hx; rcases List.mem_append.1 hx with h | h
  · exact h1 x h
  · exact h2 x h
theorem one_ne {c d : UInt8} (h : d ≠ c) : ∀ x ∈ [d], x ≠ c := by intro x hx; rw [List.mem_singleton.1 hx]; exact h
theorem dy_put {r : Ru} (h : ruE r = 0) : dyP (dyL r) = some (r.K, r.M, r.W, r.D) ∧ ∀ b ∈ dyL r, b ≠ 47 := by
  rcases ruE_kinds h with ⟨k, m0, w0, d1, d2⟩ | ⟨k, m0, w0, d1, d2⟩ | ⟨k, m1, m2, w1, w2, d1, d2⟩
  · have e : dyL r = 74 :: Lib.decDigits r.D.natAbs := by unfold dyL; rw [if_pos k, pt1 (by omega)]; rfl
    have f : fg 1 3 (Lib.decDigits r.D.natAbs) := few_fg (by omega) (by omega)
    rw [e]
    refine ⟨?_, app_ne (a := [74]) (one_ne (by decide)) (dec_ne isd_47 _)⟩
    show (if fg 1 3 (Lib.decDigits r.D.natAbs) then _ else _) = _
    rw [if_pos f]
    show some (1, 0, 0, ((dv (Lib.decDigits r.D.natAbs) : Nat) : Int)) = _
    rw [dec_dv, k, m0, w0, show ((r.D.natAbs : Nat) : Int) = r.D by omega]
  · have e : dyL r = Lib.decDigits r.D.natAbs := by unfold dyL; rw [if_neg (by omega), if_pos k, pt1 (by omega)]
    have f : fg 1 3 (Lib.decDigits r.D.natAbs) := few_fg (by omega) (by omega)
    obtain ⟨b, t, hb, hd⟩ := dec_first r.D.natAbs
    have h74 : (Lib.decDigits r.D.natAbs).head? ≠ some 74 := by rw [hb]; exact head_ne (isd_ne (by decide) hd)
    have h77 : (Lib.decDigits r.D.natAbs).head? ≠ some 77 := by rw [hb]; exact head_ne (isd_ne (by decide) hd)
    rw [e]
    refine ⟨?_, dec_ne isd_47 _⟩
    unfold dyP
    rw [if_neg h74, if_neg h77, if_pos f, dec_dv, k, m0, w0, show ((r.D.natAbs : Nat) : Int) = r.D by omega]
  · have e : dyL r = 77 :: (Lib.decDigits r.M.natAbs ++ 46 :: (Lib.decDigits r.W.natAbs ++ 46 :: Lib.decDigits r.D.natAbs)) := by
      unfold dyL; rw [if_neg (by omega), if_neg (by omega), pt1 (by omega), pt1 (by omega), pt1 (by omega)]; simp
    have f1 : fg 1 2 (Lib.decDigits r.M.natAbs) := few_fg (by omega) (by omega)
    have f2 : fg 1 1 (Lib.decDigits r.W.natAbs) := few_fg (by omega) (by omega)
    have f3 : fg 1 1 (Lib.decDigits r.D.natAbs) := few_fg (by omega) (by omega)
    rw [e]
    refine ⟨?_, app_ne (a := [77]) (one_ne (by decide)) (app_ne (dec_ne isd_47 _) (app_ne (a := [46]) (one_ne (by decide)) (app_ne (dec_ne isd_47 _) (app_ne (a := [46]) (one_ne (by decide)) (dec_ne isd_47 _)))))⟩
    unfold dyP
    rw [if_neg (by simp), if_pos (by rfl)]
    rw [show (77 :: (Lib.decDigits r.M.natAbs ++ 46 :: (Lib.decDigits r.W.natAbs ++ 46 :: Lib.decDigits r.D.natAbs))).drop 1 = Lib.decDigits r.M.natAbs ++ 46 :: (Lib.decDigits r.W.natAbs ++ 46 :: Lib.decDigits r.D.natAbs) from rfl]
    rw [spt_cut 46 _ (dec_ne isd_46 _), spt_cut 46 _ (dec_ne isd_46 _), spt_last 46 (dec_ne isd_46 _)]
    show (if fg 1 2 _ ∧ fg 1 1 _ ∧ fg 1 1 _ then _ else _) = _
    rw [if_pos ⟨f1, f2, f3⟩, dec_dv, dec_dv, dec_dv, k, show ((r.D.natAbs : Nat) : Int) = r.D by omega, show ((r.M.natAbs : Nat) : Int) = r.M by omega, show ((r.W.natAbs : Nat) : Int) = r.W by omega]
/-- What is put is read back. -/
theorem rp_put {r : Ru} (h : ruE r = 0) : rpE (ruL r) = 0 ∧ rpV (ruL r) = r := by
  obtain ⟨p1, p2⟩ := dy_put h
  have tm := (ruE_zero h).2.2
  unfold tmP at tm
  unfold ruL
  by_cases t : r.T = 7200
  · rw [if_pos t]
    have hq := qb_all p2
    have c1 : rpC (dyL r) = some (false, 2, 0, 0) := by unfold rpC; rw [hq, if_neg (by omega)]
    obtain ⟨a, b⟩ := rp_some (l := dyL r) (by rw [hq]; exact p1) c1
    have f : ckF 167 2 0 0 = true := by decide
    have g : (⟨r.K, r.M, r.W, r.D, ckT false 2 0 0⟩ : Ru) = r := by
      show (⟨r.K, r.M, r.W, r.D, 7200⟩ : Ru) = r
      rw [← t]
    rw [g, h] at a b
    exact ⟨a.trans (if_pos f), b.trans (if_pos ⟨f, rfl⟩)⟩
  · rw [if_neg t]
    have e : dyL r ++ [47] ++ ckL r.T = dyL r ++ 47 :: ckL r.T := by simp
    rw [e]
    have hq : qb 47 (dyL r ++ 47 :: ckL r.T) = dyL r := by rw [qb_app 47 _ p2, qb_stop, List.append_nil]
    have hd : (dyL r ++ 47 :: ckL r.T).drop ((dyL r).length + 1) = ckL r.T := by
      rw [List.drop_append, List.drop_of_length_le (by omega), show (dyL r).length + 1 - (dyL r).length = 1 by omega]; rfl
    have hb : r.T.natAbs < 3600000 := by omega
    have c1 : rpC (dyL r ++ 47 :: ckL r.T) = some (decide (r.T < 0), ((r.T.natAbs / 3600 : Nat) : Int), ((r.T.natAbs / 60 % 60 : Nat) : Int), ((r.T.natAbs % 60 : Nat) : Int)) := by
      unfold rpC; rw [hq, if_pos (by rw [List.length_append, List.length_cons]; omega), hd]; exact ck_put hb
    obtain ⟨a, b⟩ := rp_some (by rw [hq]; exact p1) c1
    have f : ckF 167 ((r.T.natAbs / 3600 : Nat) : Int) ((r.T.natAbs / 60 % 60 : Nat) : Int) ((r.T.natAbs % 60 : Nat) : Int) = true := by
      rw [ckF_yes]; omega
    have g : (⟨r.K, r.M, r.W, r.D, ckT (decide (r.T < 0)) ((r.T.natAbs / 3600 : Nat) : Int) ((r.T.natAbs / 60 % 60 : Nat) : Int) ((r.T.natAbs % 60 : Nat) : Int)⟩ : Ru) = r := by
      have : ckT (decide (r.T < 0)) ((r.T.natAbs / 3600 : Nat) : Int) ((r.T.natAbs / 60 % 60 : Nat) : Int) ((r.T.natAbs % 60 : Nat) : Int) = r.T := by
        unfold ckT
        by_cases d : r.T < 0
        · rw [decide_eq_true d, if_pos rfl]; omega
        · rw [decide_eq_false d, if_neg (by decide)]; omega
      rw [this]
    rw [g, h] at a b
    exact ⟨a.trans (if_pos f), b.trans (if_pos ⟨f, rfl⟩)⟩
end Go.Proofs.Ytkhcneacjnpcnaa
