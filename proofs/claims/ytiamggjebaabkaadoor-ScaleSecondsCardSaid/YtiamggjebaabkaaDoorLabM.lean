/- Labels as plain numbers: their days and seconds, and back. No walk stands here. -/
import Derived.Test.YtiamggjebaabkaaDoorDayM
namespace Go.Proofs.YtiamggjebaabkaaDoor
open Go.RowKit
set_option linter.unusedVariables false

/-- A label. -/
structure Lb where
  y : Int
  m : Int
  d : Int
  h : Int
  i : Int
  s : Int
  n : Int
  o : Int
def Lb.cells (l : Lb) : Array Value := #[.int .i64 l.y, .int .i64 l.m, .int .i64 l.d, .int .i64 l.h, .int .i64 l.i, .int .i64 l.s, .int .i64 l.n, .int .i64 l.o]
def lb0 : Lb := ⟨0, 0, 0, 0, 0, 0, 0, 0⟩
/-- Its numbers fit 64 bits. -/
structure Lb.Fit (l : Lb) : Prop where
  y : fits l.y
  m : fits l.m
  d : fits l.d
  h : fits l.h
  i : fits l.i
  s : fits l.s
  n : fits l.n
  o : fits l.o

def clok (h i s : Int) : Prop := 0 ≤ h ∧ h ≤ 23 ∧ 0 ≤ i ∧ i ≤ 59 ∧ 0 ≤ s ∧ s ≤ 60
def nnok (n : Int) : Prop := 0 ≤ n ∧ n ≤ 999999999
def ofok (o : Int) : Prop := -1439 ≤ o ∧ o ≤ 1439
def dyok (n : Int) : Prop := -4371587 ≤ n ∧ n ≤ 2932896
instance (h i s : Int) : Decidable (clok h i s) := by unfold clok; infer_instance
instance (n : Int) : Decidable (nnok n) := by unfold nnok; infer_instance
instance (o : Int) : Decidable (ofok o) := by unfold ofok; infer_instance
instance (n : Int) : Decidable (dyok n) := by unfold dyok; infer_instance

/-- The minutes from the beginning of the written day to the moment; the moment's day; its minute. -/
def lmm (l : Lb) : Int := 60 * l.h + l.i - l.o
def ldy (l : Lb) : Int := ofR l.y l.m l.d + lmm l / 1440
def lmt (l : Lb) : Int := lmm l % 1440
/-- A label's error; its day; its second. -/
def lbE (l : Lb) : Int :=
  if ckd l.y l.m l.d = 0 then (if clok l.h l.i l.s ∧ nnok l.n ∧ ofok l.o then (if dyok (ldy l) then (if l.s = 60 ∧ lmt l ≠ 1439 then 12 else 0) else 13) else 1) else ckd l.y l.m l.d
def lbN (l : Lb) : Int := if lbE l = 0 then ldy l else 0
def lbT (l : Lb) : Int := if lbE l = 0 then 60 * lmt l + l.s else 0

/-- The minute of a second of the day; what is left of it; the day and the minute of it elsewhere. -/
def cmn (t : Int) : Int := if t / 60 ≤ 1439 then t / 60 else 1439
def crs (t : Int) : Int := t - 60 * cmn t
def shn (n t o : Int) : Int := n + (cmn t + o) / 1440
def shm (t o : Int) : Int := (cmn t + o) % 1440
def mkE (n t nn o : Int) : Int :=
  if dyok n then (if (0 ≤ t ∧ t ≤ 86400) ∧ nnok nn ∧ ofok o then (if dyok (shn n t o) then 0 else 13) else 1) else 13
/-- L is the label of that day and second, at that offset; or nothing. -/
def Mk (n t nn o : Int) (L : Lb) : Prop :=
  (mkE n t nn o = 0 ∧ ∃ y m d, Dt (shn n t o) y m d ∧ L = ⟨y, m, d, shm t o / 60, shm t o % 60, crs t, nn, o⟩) ∨ (mkE n t nn o ≠ 0 ∧ L = lb0)
def atE (l : Lb) (o : Int) : Int := if lbE l = 0 then mkE (lbN l) (lbT l) l.n o else lbE l
def At (l : Lb) (o : Int) (L : Lb) : Prop := (lbE l = 0 ∧ Mk (lbN l) (lbT l) l.n o L) ∨ (lbE l ≠ 0 ∧ L = lb0)

/-- The order of numbers; of moments. -/
def cp (a b : Int) : Int := if a < b then -1 else if b < a then 1 else 0
def cmE (a b : Lb) : Int := if lbE a = 0 then lbE b else lbE a
def cm3 (a b : Lb) : Int := if cp (lbN a) (lbN b) = 0 then (if cp (lbT a) (lbT b) = 0 then cp a.n b.n else cp (lbT a) (lbT b)) else cp (lbN a) (lbN b)
def cmV (a b : Lb) : Int := if cmE a b = 0 then cm3 a b else 0

/-! errors' numbers -/
theorem ckd_lo (y m d : Int) : 0 ≤ ckd y m d ∧ ckd y m d < 100 := by unfold ckd; repeat (first | split | omega)
theorem lbE_lo (l : Lb) : 0 ≤ lbE l ∧ lbE l < 100 := by
  have := ckd_lo l.y l.m l.d
  unfold lbE; repeat (first | split | omega)
theorem mkE_lo (n t nn o : Int) : 0 ≤ mkE n t nn o ∧ mkE n t nn o < 100 := by unfold mkE; repeat (first | split | omega)
theorem atE_lo (l : Lb) (o : Int) : 0 ≤ atE l o ∧ atE l o < 100 := by
  have := lbE_lo l; have := mkE_lo (lbN l) (lbT l) l.n o
  unfold atE; split <;> omega
theorem cmE_lo (a b : Lb) : 0 ≤ cmE a b ∧ cmE a b < 100 := by
  have := lbE_lo a; have := lbE_lo b
  unfold cmE; split <;> omega

/-! what is right -/
theorem lbE_zero {l : Lb} (h : lbE l = 0) : ckd l.y l.m l.d = 0 ∧ clok l.h l.i l.s ∧ nnok l.n ∧ ofok l.o ∧ dyok (ldy l) ∧ (l.s = 60 → lmt l = 1439) := by
  unfold lbE at h
  split at h
  · next c =>
    split at h
    · next g =>
      split at h
      · next k =>
        split at h
        · cases h
        · next q => exact ⟨c, g.1, g.2.1, g.2.2, k, fun e => by omega⟩
      · cases h
    · cases h
  · next c => exact absurd h c
theorem zero_lbE {l : Lb} (c : ckd l.y l.m l.d = 0) (g : clok l.h l.i l.s) (n : nnok l.n) (o : ofok l.o) (k : dyok (ldy l)) (s : l.s = 60 → lmt l = 1439) : lbE l = 0 := by
  unfold lbE
  rw [if_pos c, if_pos ⟨g, n, o⟩, if_pos k, if_neg (by omega)]
theorem mkE_zero {n t nn o : Int} (h : mkE n t nn o = 0) : dyok n ∧ (0 ≤ t ∧ t ≤ 86400) ∧ nnok nn ∧ ofok o ∧ dyok (shn n t o) := by
  unfold mkE at h
  split at h
  · next c =>
    split at h
    · next g =>
      split at h
      · next k => exact ⟨c, g.1, g.2.1, g.2.2, k⟩
      · cases h
    · cases h
  · cases h
theorem zero_mkE {n t nn o : Int} (a : dyok n) (b : 0 ≤ t ∧ t ≤ 86400) (c : nnok nn) (d : ofok o) (e : dyok (shn n t o)) : mkE n t nn o = 0 := by
  unfold mkE
  rw [if_pos a, if_pos ⟨b, c, d⟩, if_pos e]
/-- A right label's second lies in the day. -/
theorem lbT_bd (l : Lb) : 0 ≤ lbT l ∧ lbT l ≤ 86400 := by
  unfold lbT
  split
  · next h =>
    obtain ⟨-, g, -, -, -, s⟩ := lbE_zero h
    unfold clok at g
    unfold lmt at *
    omega
  · omega
theorem lbN_bd (l : Lb) : -4371587 ≤ lbN l ∧ lbN l ≤ 2932896 := by
  unfold lbN
  split
  · next h =>
    obtain ⟨-, -, -, -, k, -⟩ := lbE_zero h
    exact k
  · omega

/-! a moment's label, and a label's moment -/
theorem mk_ex (n t nn o : Int) : ∃ L, Mk n t nn o L := by
  by_cases h : mkE n t nn o = 0
  · obtain ⟨-, -, -, -, k⟩ := mkE_zero h
    obtain ⟨y, m, d, D⟩ := dt_some k.1 k.2
    exact ⟨_, .inl ⟨h, y, m, d, D, rfl⟩⟩
  · exact ⟨_, .inr ⟨h, rfl⟩⟩
theorem at_ex (l : Lb) (o : Int) : ∃ L, At l o L := by
  by_cases h : lbE l = 0
  · obtain ⟨L, hL⟩ := mk_ex (lbN l) (lbT l) l.n o
    exact ⟨L, .inl ⟨h, hL⟩⟩
  · exact ⟨_, .inr ⟨h, rfl⟩⟩
theorem Mk.one {n t nn o : Int} {L K : Lb} (a : Mk n t nn o L) (b : Mk n t nn o K) : L = K := by
  rcases a with ⟨h, y, m, d, D, rfl⟩ | ⟨h, rfl⟩
  · rcases b with ⟨-, y', m', d', D', rfl⟩ | ⟨g, -⟩
    · obtain ⟨rfl, rfl, rfl⟩ := D.one D'
      rfl
    · exact absurd h g
  · rcases b with ⟨g, -⟩ | ⟨-, rfl⟩
    · exact absurd g h
    · rfl
/-- The label of a moment has that moment. -/
theorem mk_moment {n t nn o : Int} {L : Lb} (h : mkE n t nn o = 0) (a : Mk n t nn o L) : lbE L = 0 ∧ lbN L = n ∧ lbT L = t ∧ L.n = nn ∧ L.o = o := by
  obtain ⟨kn, kt, knn, ko, ks⟩ := mkE_zero h
  rcases a with ⟨-, y, m, d, D, rfl⟩ | ⟨g, -⟩
  · obtain ⟨c, e⟩ := dt_ckd D
    unfold ofok at ko
    have hc : cmn t = t / 60 ∧ t / 60 ≤ 1439 ∨ cmn t = 1439 ∧ t = 86400 := by unfold cmn; split <;> omega
    have hr : crs t = t - 60 * cmn t := rfl
    have hs : shm t o = (cmn t + o) % 1440 := rfl
    have hn : shn n t o = n + (cmn t + o) / 1440 := rfl
    have hm : lmm ⟨y, m, d, shm t o / 60, shm t o % 60, crs t, nn, o⟩ = shm t o - o := by unfold lmm; show 60 * (shm t o / 60) + shm t o % 60 - o = _; omega
    have hd : ldy ⟨y, m, d, shm t o / 60, shm t o % 60, crs t, nn, o⟩ = n := by unfold ldy; rw [hm]; show ofR y m d + _ = n; rw [e]; omega
    have hq : lmt ⟨y, m, d, shm t o / 60, shm t o % 60, crs t, nn, o⟩ = cmn t := by unfold lmt; rw [hm]; omega
    have z : lbE ⟨y, m, d, shm t o / 60, shm t o % 60, crs t, nn, o⟩ = 0 :=
      zero_lbE c (by show clok (shm t o / 60) (shm t o % 60) (crs t); unfold clok; omega) knn ko (by rw [hd]; exact kn) (by rw [hq]; show crs t = 60 → _; omega)
    refine ⟨z, ?_, ?_, rfl, rfl⟩
    · unfold lbN; rw [if_pos z, hd]
    · unfold lbT; rw [if_pos z, hq]; show 60 * cmn t + crs t = t; omega
  · exact absurd h g
/-- A label is that of its moment. -/
theorem moment_mk {l : Lb} (h : lbE l = 0) : mkE (lbN l) (lbT l) l.n l.o = 0 ∧ Mk (lbN l) (lbT l) l.n l.o l := by
  obtain ⟨c, g, kn, ko, k, s⟩ := lbE_zero h
  have T := lbT_bd l
  have D := ckd_dt c
  have e1 : lbN l = ldy l := if_pos h
  have e2 : lbT l = 60 * lmt l + l.s := if_pos h
  unfold clok at g
  have b : 0 ≤ lmt l ∧ lmt l ≤ 1439 := by unfold lmt; omega
  have hc : cmn (lbT l) = lmt l := by unfold cmn; rw [e2]; split <;> omega
  have hr : crs (lbT l) = l.s := by unfold crs; rw [hc, e2]; omega
  have hm : lmt l + l.o = 60 * l.h + l.i - 1440 * (lmm l / 1440) := by unfold lmt lmm; omega
  have hn : shn (lbN l) (lbT l) l.o = ofR l.y l.m l.d := by unfold shn; rw [hc, e1, hm]; unfold ldy; omega
  have hs : shm (lbT l) l.o = 60 * l.h + l.i := by unfold shm; rw [hc, hm]; omega
  have z : mkE (lbN l) (lbT l) l.n l.o = 0 := zero_mkE (by rw [e1]; exact k) T kn ko (by rw [hn]; exact D.range)
  refine ⟨z, .inl ⟨z, l.y, l.m, l.d, by rw [hn]; exact D, ?_⟩⟩
  rw [hs, hr, show (60 * l.h + l.i) / 60 = l.h by omega, show (60 * l.h + l.i) % 60 = l.i by omega]

/-! the order -/
theorem cp_bd (a b : Int) : (a < b ∧ cp a b = -1) ∨ (b < a ∧ cp a b = 1) ∨ (a = b ∧ cp a b = 0) := by unfold cp; repeat (first | split | omega)
theorem cm3_anti (a b : Lb) : cm3 a b = - cm3 b a := by
  have h1 := cp_bd (lbN a) (lbN b); have h2 := cp_bd (lbN b) (lbN a)
  have h3 := cp_bd (lbT a) (lbT b); have h4 := cp_bd (lbT b) (lbT a)
  have h5 := cp_bd a.n b.n; have h6 := cp_bd b.n a.n
  unfold cm3
  repeat (first | omega | split)
/-- What cm3 tells: the order of days, then seconds, then nanoseconds. -/
theorem cm3_is (a b : Lb) : (cm3 a b = -1 ∧ (lbN a < lbN b ∨ (lbN a = lbN b ∧ (lbT a < lbT b ∨ (lbT a = lbT b ∧ a.n < b.n))))) ∨ (cm3 a b = 1 ∧ (lbN b < lbN a ∨ (lbN a = lbN b ∧ (lbT b < lbT a ∨ (lbT a = lbT b ∧ b.n < a.n))))) ∨ (cm3 a b = 0 ∧ lbN a = lbN b ∧ lbT a = lbT b ∧ a.n = b.n) := by
  have h1 := cp_bd (lbN a) (lbN b); have h3 := cp_bd (lbT a) (lbT b); have h5 := cp_bd a.n b.n
  unfold cm3
  repeat (first | omega | split)
theorem cm3_trans (a b c : Lb) : (cm3 a b > 0 ∨ cm3 b c > 0 ∨ cm3 a c ≤ 0) ∧ (cm3 a b ≥ 0 ∨ cm3 b c > 0 ∨ cm3 a c < 0) := by
  have h1 := cm3_is a b; have h2 := cm3_is b c; have h3 := cm3_is a c
  omega
theorem cm3_same {a b : Lb} (h : lbN a = lbN b) (k : lbT a = lbT b) (n : a.n = b.n) : cm3 a b = 0 := by
  have := cm3_is a b; omega

end Go.Proofs.YtiamggjebaabkaaDoor
